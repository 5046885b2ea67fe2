import Derived.Test.YtmfhbnelmbjkeabGreatDoorGT
import Derived.Test.YtmfhbnelmbjkeabGreatDoorGS
import Derived.Deep.RegionWith
import Derived.Lib.LaidTab
import Derived.ChangeBears2
import Derived.Test.YtmfhbnelmbjkeabGreatDoorCards
import Derived.Test.YtmfhbnelmbjkeabGreatDoorTie
import Derived.ProofKit
import Derived.OpenShut
import Derived.OpenVars
import Derived.ChangeOld
import Derived.Deep.DeepHandedRow

/- DERIVED. laws.FnExactSkyPrint: its walk . -/
namespace Go.Proofs.YtmfhbnelmbjkeabGreatDoor
open Go.RowKit
set_option linter.unusedSimpArgs false
set_option linter.unusedVariables false

/-- The text of a valid sky. -/
def skyText (x : DSky) : ByteArray := ⟨(T4 x.1 x.2.1 x.2.2.1 x.2.2.2.1 x.2.2.2.2.1 x.2.2.2.2.2.1 x.2.2.2.2.2.2 x.2.2.2.2.2.2.length).toArray⟩
theorem sSkyPrint (x : DSky) (ao3 : Option Addr) (cap3 : Nat) (ao4 : Option Addr) (cap4 : Nat) (ao5 : Option Addr) (cap5 : Nat) (ao6 : Option Addr) (cap6 : Nat) (w : World) (h : SkyAt w x ao3 cap3 ao4 cap4 ao5 cap5 ao6 cap6) :
    Calls Tryz.prog 5 #[.agg (skyCells x ao3 cap3 ao4 cap4 ao5 cap5 ao6 cap6)] w fun e w' => ((ValidSky x ∧ e = .returned (.string (skyText x))) ∨ (¬ ValidSky x ∧ e = .returned (.string ByteArray.empty))) ∧ Below w.heap.size w w' :=
  sSkyPrint_any x.1 x.2.1 x.2.2.1 x.2.2.2.1 x.2.2.2.2.1 x.2.2.2.2.2.1 x.2.2.2.2.2.2 ao3 cap3 ao4 cap4 ao5 cap5 ao6 cap6 w h
theorem iSkyPrint (x : DSky) (ao3 : Option Addr) (cap3 : Nat) (ao4 : Option Addr) (cap4 : Nat) (ao5 : Option Addr) (cap5 : Nat) (ao6 : Option Addr) (cap6 : Nat) (w : World) (h : SkyAt w x ao3 cap3 ao4 cap4 ao5 cap5 ao6 cap6) (hT : TurnsLaid w) :
    Calls Tryz.prog 7 #[.agg (skyCells x ao3 cap3 ao4 cap4 ao5 cap5 ao6 cap6)] w fun e w' => ((ValidSky x ∧ e = .returned (.string (skyText x))) ∨ (¬ ValidSky x ∧ e = .returned (.string ByteArray.empty))) ∧ Below w.heap.size w w' :=
  iSkyPrint_any x.1 x.2.1 x.2.2.1 x.2.2.2.1 x.2.2.2.2.1 x.2.2.2.2.2.1 x.2.2.2.2.2.2 ao3 cap3 ao4 cap4 ao5 cap5 ao6 cap6 w h hT

theorem skyAt_of {w w' : World} {x : DSky} {ao3 : Option Addr} {cap3 : Nat} {ao4 : Option Addr} {cap4 : Nat} {ao5 : Option Addr} {cap5 : Nat} {ao6 : Option Addr} {cap6 : Nat} (p3 : SliceAt vSkyPoint (fresh w w') w' ao3 cap3 x.2.2.2.1) (p4 : SliceAt vSkyAirway (fresh w w') w' ao4 cap4 x.2.2.2.2.1) (p5 : SliceAt vSkySector (fresh w w') w' ao5 cap5 x.2.2.2.2.2.1) (p6 : SliceAt vSkyRunway (fresh w w') w' ao6 cap6 x.2.2.2.2.2.2) : SkyAt w' x ao3 cap3 ao4 cap4 ao5 cap5 ao6 cap6 :=
  ⟨p3.mono fresh_old, p4.mono fresh_old, p5.mono fresh_old, p6.mono fresh_old⟩

set_option maxRecDepth 100000 in
set_option maxHeartbeats 2000000 in
theorem law_small (x : DSky) (ao3 : Option Addr) (cap3 : Nat) (ao4 : Option Addr) (cap4 : Nat) (ao5 : Option Addr) (cap5 : Nat) (ao6 : Option Addr) (cap6 : Nat) (w : World) (h : SkyAt w x ao3 cap3 ao4 cap4 ao5 cap5 ao6 cap6) (hT : TurnsLaid w) (hn : wSky x ≤ 1048576) :
    Calls Tryz.prog 3 #[.agg #[.int .i64 x.1, .int .i64 x.2.1, .int .i64 x.2.2.1, .slice ao3 x.2.2.2.1.length cap3, .slice ao4 x.2.2.2.2.1.length cap4, .slice ao5 x.2.2.2.2.2.1.length cap5, .slice ao6 x.2.2.2.2.2.2.length cap6]] w fun e w' => e = .returned (.bool true) ∧ Below w.heap.size w w' := by
  have hsz : szR 1048576 (wSky x) = 1048576 - (wSky x : Int) := szR_yes (by omega)
  have hnn : ¬ szR 1048576 (wSky x) < 0 := by rw [hsz]; omega
  have hb0 : Below w.heap.size w (w.alloc (.cells #[.int .i64 x.1, .int .i64 x.2.1, .int .i64 x.2.2.1, .slice ao3 x.2.2.2.1.length cap3, .slice ao4 x.2.2.2.2.1.length cap4, .slice ao5 x.2.2.2.2.2.1.length cap5, .slice ao6 x.2.2.2.2.2.2.length cap6] 27)) := (Below.refl _ _).alloc (Nat.le_refl _) _
  have hA := h.later hb0
  have HBX : Hid (∀ W' : World, Below (w.heap.size + 1) (w.alloc (.cells #[.int .i64 x.1, .int .i64 x.2.1, .int .i64 x.2.2.1, .slice ao3 x.2.2.2.1.length cap3, .slice ao4 x.2.2.2.2.1.length cap4, .slice ao5 x.2.2.2.2.2.1.length cap5, .slice ao6 x.2.2.2.2.2.2.length cap6] 27)) W' → ∀ i, W'.cell? ⟨w.heap.size, i, none⟩ = (#[.int .i64 x.1, .int .i64 x.2.1, .int .i64 x.2.2.1, .slice ao3 x.2.2.2.1.length cap3, .slice ao4 x.2.2.2.2.1.length cap4, .slice ao5 x.2.2.2.2.2.1.length cap5, .slice ao6 x.2.2.2.2.2.2.length cap6] : Array Value)[i]?) := fun W' hW i => box_cell hW i
  clear hsz
  go_enter Tryz.func3, Tryz.ntmps3
  go_wp2_with fail
  refine (szSky_any x ao3 cap3 ao4 cap4 ao5 cap5 ao6 cap6 1048576 _ (by omega) (by omega) hA.p3 hA.p4 hA.p5 hA.p6).mono ?_
  rintro e w1 ⟨rfl, hb1⟩
  have hx1 : Below (w.heap.size + 1) (w.alloc (.cells #[.int .i64 x.1, .int .i64 x.2.1, .int .i64 x.2.2.1, .slice ao3 x.2.2.2.1.length cap3, .slice ao4 x.2.2.2.2.1.length cap4, .slice ao5 x.2.2.2.2.2.1.length cap5, .slice ao6 x.2.2.2.2.2.2.length cap6] 27)) w1 := hb1.mono (by simp)
  have hB1 := box_below hx1
  have hA1 := h.later hB1
  have z0 := HBX.out w1 hx1 0
  have z1 := HBX.out w1 hx1 1
  have z2 := HBX.out w1 hx1 2
  have z3 := HBX.out w1 hx1 3
  have z4 := HBX.out w1 hx1 4
  have z5 := HBX.out w1 hx1 5
  have z6 := HBX.out w1 hx1 6
  simp at z0 z1 z2 z3 z4 z5 z6
  clear hb1 hb0 hA
  go_wp2_with fail
  refine (toSky_any x ao3 cap3 ao4 cap4 ao5 cap5 ao6 cap6 w1 hA1.p3 hA1.p4 hA1.p5 hA1.p6 hn).mono ?_
  rintro e w2 ⟨ao3', cap3', ao4', cap4', ao5', cap5', ao6', cap6', rfl, p3, p4, p5, p6, hb2⟩
  have hx2 : Below (w.heap.size + 1) (w.alloc (.cells #[.int .i64 x.1, .int .i64 x.2.1, .int .i64 x.2.2.1, .slice ao3 x.2.2.2.1.length cap3, .slice ao4 x.2.2.2.2.1.length cap4, .slice ao5 x.2.2.2.2.2.1.length cap5, .slice ao6 x.2.2.2.2.2.2.length cap6] 27)) w2 := hx1.trans (hb2.mono (by have := hx1.size; simpa using this))
  have hB2 := box_below hx2
  have hS2 := skyAt_of p3 p4 p5 p6
  clear z0 z1 z2 z3 z4 z5 z6 p3 p4 p5 p6 hb2
  go_wp2_with fail
  refine (sSkyPrint x ao3' cap3' ao4' cap4' ao5' cap5' ao6' cap6' w2 hS2).mono ?_
  rintro e w3 ⟨he, hb3⟩
  have hx3 : Below (w.heap.size + 1) (w.alloc (.cells #[.int .i64 x.1, .int .i64 x.2.1, .int .i64 x.2.2.1, .slice ao3 x.2.2.2.1.length cap3, .slice ao4 x.2.2.2.2.1.length cap4, .slice ao5 x.2.2.2.2.2.1.length cap5, .slice ao6 x.2.2.2.2.2.2.length cap6] 27)) w3 := hx2.trans (hb3.mono (by have := hx2.size; simpa using this))
  have hB3 := box_below hx3
  have hA3 := h.later hB3
  obtain ⟨bv, hbv, rfl⟩ : ∃ bv : ByteArray, ((ValidSky x ∧ bv = skyText x) ∨ (¬ ValidSky x ∧ bv = ByteArray.empty)) ∧ e = .returned (.string bv) := by
    rcases he with ⟨h1, h2⟩ | ⟨h1, h2⟩
    · exact ⟨_, .inl ⟨h1, rfl⟩, h2⟩
    · exact ⟨_, .inr ⟨h1, rfl⟩, h2⟩
  have HBV : Hid ((ValidSky x ∧ bv = skyText x) ∨ (¬ ValidSky x ∧ bv = ByteArray.empty)) := hbv
  clear he hbv hb3 hS2
  have z0 := HBX.out w3 hx3 0
  have z1 := HBX.out w3 hx3 1
  have z2 := HBX.out w3 hx3 2
  have z3 := HBX.out w3 hx3 3
  have z4 := HBX.out w3 hx3 4
  have z5 := HBX.out w3 hx3 5
  have z6 := HBX.out w3 hx3 6
  simp at z0 z1 z2 z3 z4 z5 z6
  go_wp2_with fail
  refine (toSky_any x ao3 cap3 ao4 cap4 ao5 cap5 ao6 cap6 w3 hA3.p3 hA3.p4 hA3.p5 hA3.p6 hn).mono ?_
  rintro e w4 ⟨ao3q, cap3q, ao4q, cap4q, ao5q, cap5q, ao6q, cap6q, rfl, p3, p4, p5, p6, hb4⟩
  have hx4 : Below (w.heap.size + 1) (w.alloc (.cells #[.int .i64 x.1, .int .i64 x.2.1, .int .i64 x.2.2.1, .slice ao3 x.2.2.2.1.length cap3, .slice ao4 x.2.2.2.2.1.length cap4, .slice ao5 x.2.2.2.2.2.1.length cap5, .slice ao6 x.2.2.2.2.2.2.length cap6] 27)) w4 := hx3.trans (hb4.mono (by have := hx3.size; simpa using this))
  have hB4 := box_below hx4
  have hS4 := skyAt_of p3 p4 p5 p6
  have hbq : Below w4.heap.size w4 (w4.alloc (.cells #[.int .i64 x.1, .int .i64 x.2.1, .int .i64 x.2.2.1, .slice ao3q x.2.2.2.1.length cap3q, .slice ao4q x.2.2.2.2.1.length cap4q, .slice ao5q x.2.2.2.2.2.1.length cap5q, .slice ao6q x.2.2.2.2.2.2.length cap6q] 35)) := (Below.refl _ _).alloc (Nat.le_refl _) _
  have hT4 := hT.later (hB4.trans (hbq.mono hB4.size))
  have hS4' := hS4.later hbq
  clear z0 z1 z2 z3 z4 z5 z6 p3 p4 p5 p6 hb4
  go_wp2_with fail
  refine (iSkyPrint x ao3q cap3q ao4q cap4q ao5q cap5q ao6q cap6q (w4.alloc (.cells #[.int .i64 x.1, .int .i64 x.2.1, .int .i64 x.2.2.1, .slice ao3q x.2.2.2.1.length cap3q, .slice ao4q x.2.2.2.2.1.length cap4q, .slice ao5q x.2.2.2.2.2.1.length cap5q, .slice ao6q x.2.2.2.2.2.2.length cap6q] 35)) hS4' hT4).mono ?_
  rintro e w5 ⟨he, hb5⟩
  have he : e = .returned (.string bv) := by
    rcases he with ⟨h1, h2⟩ | ⟨h1, h2⟩ <;> rcases HBV.out with ⟨h3, h4⟩ | ⟨h3, h4⟩
    · rw [h2, h4]
    · exact absurd h1 h3
    · exact absurd h3 h1
    · rw [h2, h4]
  subst he
  have hq5 : Below (w4.heap.size + 1) (w4.alloc (.cells #[.int .i64 x.1, .int .i64 x.2.1, .int .i64 x.2.2.1, .slice ao3q x.2.2.2.1.length cap3q, .slice ao4q x.2.2.2.2.1.length cap4q, .slice ao5q x.2.2.2.2.2.1.length cap5q, .slice ao6q x.2.2.2.2.2.2.length cap6q] 35)) w5 := hb5.mono (by simp)
  have hB45 := box_below hq5
  have hw04 : w.heap.size + 1 ≤ w4.heap.size := by have := hx4.size; simpa using this
  have hx5 : Below (w.heap.size + 1) (w.alloc (.cells #[.int .i64 x.1, .int .i64 x.2.1, .int .i64 x.2.2.1, .slice ao3 x.2.2.2.1.length cap3, .slice ao4 x.2.2.2.2.1.length cap4, .slice ao5 x.2.2.2.2.2.1.length cap5, .slice ao6 x.2.2.2.2.2.2.length cap6] 27)) w5 := hx4.trans (hB45.mono hw04)
  have hA5 := h.later (box_below hx5)
  have hS5 := hS4'.later hb5
  have hB5 := box_below hx5
  have z0 := HBX.out w5 hx5 0
  have z1 := HBX.out w5 hx5 1
  have z2 := HBX.out w5 hx5 2
  have z3 := HBX.out w5 hx5 3
  have z4 := HBX.out w5 hx5 4
  have z5 := HBX.out w5 hx5 5
  have z6 := HBX.out w5 hx5 6
  simp at z0 z1 z2 z3 z4 z5 z6
  have y0 : w5.cell? ⟨w4.heap.size, 0, none⟩ = some (.int .i64 x.1) := box_cell hq5 0
  have y1 : w5.cell? ⟨w4.heap.size, 1, none⟩ = some (.int .i64 x.2.1) := box_cell hq5 1
  have y2 : w5.cell? ⟨w4.heap.size, 2, none⟩ = some (.int .i64 x.2.2.1) := box_cell hq5 2
  have y3 : w5.cell? ⟨w4.heap.size, 3, none⟩ = some (.slice ao3q x.2.2.2.1.length cap3q) := box_cell hq5 3
  have y4 : w5.cell? ⟨w4.heap.size, 4, none⟩ = some (.slice ao4q x.2.2.2.2.1.length cap4q) := box_cell hq5 4
  have y5 : w5.cell? ⟨w4.heap.size, 5, none⟩ = some (.slice ao5q x.2.2.2.2.2.1.length cap5q) := box_cell hq5 5
  have y6 : w5.cell? ⟨w4.heap.size, 6, none⟩ = some (.slice ao6q x.2.2.2.2.2.2.length cap6q) := box_cell hq5 6
  have hw45 : w4.heap.size < w5.heap.size := by have := hq5.size; simp at this; omega
  clear hb5 hS4 hS4' hT4 hbq hq5 hB45 hx5 hx4 hB4 hx3 hB3 hx2 hB2 hx1 hB1 HBV
  go_wp2
  have hbd : Below w5.heap.size w5 w5.drew := (Below.refl _ _).drew
  have hA5d := hA5.later hbd
  have hS5d := hS5.later hbd
  have HTO := toSky_any x ao3 cap3 ao4 cap4 ao5 cap5 ao6 cap6 w5.drew hA5d.p3 hA5d.p4 hA5d.p5 hA5d.p6 hn
  clear hA5 hS5
  go_region_with (first | (go_at_call 6; refine HTO.mono ?_; rintro e w6 ⟨ao3r, cap3r, ao4r, cap4r, ao5r, cap5r, ao6r, cap6r, rfl, p3, p4, p5, p6, hb6⟩; have k0 := (hb6.cell (p := ⟨w4.heap.size, 0, none⟩) hw45).trans y0; have k1 := (hb6.cell (p := ⟨w4.heap.size, 1, none⟩) hw45).trans y1; have k2 := (hb6.cell (p := ⟨w4.heap.size, 2, none⟩) hw45).trans y2; have k3 := (hb6.cell (p := ⟨w4.heap.size, 3, none⟩) hw45).trans y3; have k4 := (hb6.cell (p := ⟨w4.heap.size, 4, none⟩) hw45).trans y4; have k5 := (hb6.cell (p := ⟨w4.heap.size, 5, none⟩) hw45).trans y5; have k6 := (hb6.cell (p := ⟨w4.heap.size, 6, none⟩) hw45).trans y6) | (go_at_call 8; refine (eqSky_any x ao3q cap3q ao4q cap4q ao5q cap5q ao6q cap6q ao3r cap3r ao4r cap4r ao5r cap5r ao6r cap6r _ (hS5d.p3.later hb6) (p3.mono fresh_old) (hS5d.p4.later hb6) (p4.mono fresh_old) (hS5d.p5.later hb6) (p5.mono fresh_old) (hS5d.p6.later hb6) (p6.mono fresh_old) hn).mono ?_; rintro e w7 ⟨rfl, hb7⟩))
  all_goals
    go_wp2
    go_ret
    exact ⟨rfl, ((hB5.trans (hbd.mono hB5.size)).trans (hb6.mono (by have := hB5.size; simpa using this))).trans (hb7.mono (by have h1 := hb6.size; have h2 := hB5.size; simp at h1; omega))⟩

end Go.Proofs.YtmfhbnelmbjkeabGreatDoor

/- DERIVED. What the law's argument reads as, as plain data; what the laid words give; the law at every argument. -/
namespace Go.Proofs.YtmfhbnelmbjkeabGreatDoor
open Go.RowKit Go.WideShapes
set_option linter.unusedSimpArgs false
set_option linter.unusedVariables false

theorem opPoint : Opens Tryz.prog 78 vSkyPoint :=
  opens_struct Tryz.underlying78 (by kernel_rfl) (opensFs_cons rfl (by kernel_rfl) (opens_str Tryz.underlying9) (opensFs_cons rfl (by kernel_rfl) (opens_int Tryz.underlying3) (opensFs_one rfl (by kernel_rfl) (opens_int Tryz.underlying3))))
theorem opBlock : Opens Tryz.prog 139 vSkyBlock :=
  opens_struct Tryz.underlying139 (by kernel_rfl) (opensFs_cons rfl (by kernel_rfl) (opens_int Tryz.underlying3) (opensFs_cons rfl (by kernel_rfl) (opens_int Tryz.underlying3) (opensFs_cons rfl (by kernel_rfl) (opens_int Tryz.underlying3) (opensFs_cons rfl (by kernel_rfl) (opens_int Tryz.underlying3) (opensFs_cons rfl (by kernel_rfl) (opens_int Tryz.underlying3) (opensFs_one rfl (by kernel_rfl) (opens_int Tryz.underlying3)))))))
theorem opRunway : Opens Tryz.prog 86 vSkyRunway :=
  opens_struct Tryz.underlying86 (by kernel_rfl) (opensFs_cons rfl (by kernel_rfl) (opens_str Tryz.underlying9) (opensFs_cons rfl (by kernel_rfl) (opens_int Tryz.underlying3) (opensFs_cons rfl (by kernel_rfl) (opens_int Tryz.underlying3) (opensFs_one rfl (by kernel_rfl) (opens_int Tryz.underlying3)))))
theorem opAirway : Opens Tryz.prog 80 vSkyAirway :=
  opens_struct Tryz.underlying80 (by kernel_rfl) (opensFs_cons rfl (by kernel_rfl) (opens_str Tryz.underlying9) (opensFs_one rfl (by kernel_rfl) (opens_slice Tryz.underlying48 (by kernel_rfl) (by decide) (opens_str Tryz.underlying9))))
theorem opSector : Opens Tryz.prog 84 vSkySector :=
  opens_struct Tryz.underlying84 (by kernel_rfl) (opensFs_cons rfl (by kernel_rfl) (opens_str Tryz.underlying9) (opensFs_one rfl (by kernel_rfl) (opens_slice Tryz.underlying82 (by kernel_rfl) (by decide) opBlock)))
theorem opSky : Opens Tryz.prog 27 vSky :=
  opens_struct Tryz.underlying27 (by kernel_rfl) (opensFs_cons rfl (by kernel_rfl) (opens_int Tryz.underlying3) (opensFs_cons rfl (by kernel_rfl) (opens_int Tryz.underlying3) (opensFs_cons rfl (by kernel_rfl) (opens_int Tryz.underlying3)
    (opensFs_cons rfl (by kernel_rfl) (opens_slice Tryz.underlying22 (by kernel_rfl) (by decide) opPoint) (opensFs_cons rfl (by kernel_rfl) (opens_slice Tryz.underlying23 (by kernel_rfl) (by decide) opAirway)
      (opensFs_cons rfl (by kernel_rfl) (opens_slice Tryz.underlying24 (by kernel_rfl) (by decide) opSector) (opensFs_one rfl (by kernel_rfl) (opens_slice Tryz.underlying25 (by kernel_rfl) (by decide) opRunway))))))))

/-- An array of texts that reads as such a list holds them, cell for cell. -/
theorem strs_of_tab {H : Type} {enc : TypeId × Value → H} {P : Program} {w : World} {base : Nat} {sp : Nat → Bool} {held : Bool} {fuel : Nat} {t e : TypeId} {n : Nat} {cs : List Value} {zs : List (List UInt8)} {p : List MemPlace}
    (ht : P.underlying t = some (.array n e)) (he : P.underlying e = some .string) (hce : P.cellsOf e = 1) (hct : P.cellsOf t = n)
    (h : DataW.trod enc P w base sp held fuel t cs = some (.agg (zs.map fun z => .lit (.string z)), p)) : cs = zs.map fun z => Value.string ⟨z.toArray⟩ := by
  cases fuel with
  | zero => simp [DataW.trod] at h
  | succ fuel =>
    simp only [DataW.trod, ht, hce, hct, Nat.mul_one] at h
    split at h
    · rename_i hl
      obtain ⟨xs, hm, hx⟩ := Option.map_eq_some_iff.1 h
      have hxs : xs.map (·.1) = zs.map fun z => (DataW.lit (.string z) : DataW H) := by
        have := congrArg Prod.fst hx
        simpa using this
      have hxl : xs.length = n := by simpa using Lib.mapM_length hm
      have hzl : zs.length = n := by
        have := congrArg List.length hxs
        simp at this
        omega
      apply List.ext_getElem?
      intro i
      by_cases hi : i < n
      · obtain ⟨b, hb, hf⟩ := Lib.mapM_at hm i i (by simp [hi])
        obtain ⟨z, hc, rfl, _⟩ := DataW.trod_string he hf
        have h1 : cs[i]? = some (.string z) := by
          have := congrArg (·[0]?) hc
          simpa [List.getElem?_take, List.getElem?_drop] using this
        have h2 : (xs.map (·.1))[i]? = some (DataW.lit (.string z.data.toList) : DataW H) := by simp [hb]
        rw [hxs] at h2
        simp only [List.getElem?_map, Option.map_eq_some_iff, DataW.lit.injEq, Lit.string.injEq] at h2
        obtain ⟨z', hz', rfl⟩ := h2
        simp [h1, hz']
      · rw [List.getElem?_eq_none (by omega), List.getElem?_eq_none (by simp; omega)]
    · cases h

theorem gWords : Tryz.prog.globalNamed "loop.example/lapwing/impl.skyTurnWords" = some 0 := by kernel_rfl
theorem gWordsT : (Tryz.prog.globals[0]?).map (·.type) = some 102 := by kernel_rfl
theorem cellsWords : Tryz.prog.cellsOf 102 = 8 := by kernel_rfl
theorem cellsStr : Tryz.prog.cellsOf 9 = 1 := by kernel_rfl

theorem turns_of_vars {W : World} {rest : List (String × DataW Unit)} {ps : List MemPlace} (h : DataW.LaidVars Tryz.prog W (("loop.example/lapwing/impl.skyTurnWords", .agg [.lit (.string [110]), .lit (.string [110, 101]), .lit (.string [101]), .lit (.string [115, 101]), .lit (.string [115]), .lit (.string [115, 119]), .lit (.string [119]), .lit (.string [110, 119])]) :: rest) ps) : TurnsLaid W := by
  obtain ⟨g', t', cs, fuel, p, q, hg', ht', hvar, hd, _, _⟩ := h
  obtain rfl := Option.some.inj (gWords.symm.trans hg')
  obtain rfl := Option.some.inj (gWordsT.symm.trans ht')
  have hcs := strs_of_tab (zs := [[110], [110, 101], [101], [115, 101], [115], [115, 119], [119], [110, 119]]) Tryz.underlying102 Tryz.underlying9 cellsStr cellsWords hd
  have hcs2 : cs = turnCells := by
    apply Array.ext'
    rw [hcs]
    rfl
  intro j hj
  rw [World.var?_cell gWords hvar j, hcs2]

/-- What the row's list gives: the package's array holds the words of the turns. -/
theorem turns_of_laid {W : World} {a b c : String × DataW Unit} {rest : List (String × DataW Unit)} (h : laidMet Tryz.prog (a :: b :: c :: ("loop.example/lapwing/impl.skyTurnWords", .agg [.lit (.string [110]), .lit (.string [110, 101]), .lit (.string [101]), .lit (.string [115, 101]), .lit (.string [115]), .lit (.string [115, 119]), .lit (.string [119]), .lit (.string [110, 119])]) :: rest) W) : TurnsLaid W := by
  obtain ⟨ps, ⟨_, _, _, _, _, _, _, _, _, _, ⟨_, _, _, _, _, _, _, _, _, _, ⟨_, _, _, _, _, _, _, _, _, _, h4, _⟩, _⟩, _⟩, _⟩ := h
  exact turns_of_vars h4

set_option maxHeartbeats 1000000 in
theorem law_big (x : DSky) (ao3 : Option Addr) (cap3 : Nat) (ao4 : Option Addr) (cap4 : Nat) (ao5 : Option Addr) (cap5 : Nat) (ao6 : Option Addr) (cap6 : Nat) (w : World) (h : SkyAt w x ao3 cap3 ao4 cap4 ao5 cap5 ao6 cap6) (hn : ¬ wSky x ≤ 1048576) :
    Calls Tryz.prog 3 #[.agg (skyCells x ao3 cap3 ao4 cap4 ao5 cap5 ao6 cap6)] w fun e w' => e = .returned (.bool true) ∧ Below w.heap.size w w' := by
  have hsz : szR 1048576 (wSky x) = -1 := szR_no (by omega)
  have hb0 : Below w.heap.size w (w.alloc (.cells (skyCells x ao3 cap3 ao4 cap4 ao5 cap5 ao6 cap6) 27)) := (Below.refl _ _).alloc (Nat.le_refl _) _
  have hA := h.later hb0
  have hcall := szSky_any x ao3 cap3 ao4 cap4 ao5 cap5 ao6 cap6 1048576 _ (by omega) (by omega) hA.p3 hA.p4 hA.p5 hA.p6
  rw [hsz] at hcall
  clear hsz
  simp only [skyCells] at *
  go_enter Tryz.func3, Tryz.ntmps3
  go_wp2_with fail
  refine hcall.mono ?_
  rintro e w1 ⟨rfl, hb1⟩
  have hb2 := hb0.trans (hb1.mono hb0.size)
  clear hb1 hcall
  go_wp2
  go_ret
  exact ⟨rfl, hb2⟩

theorem law_any (x : DSky) (ao3 : Option Addr) (cap3 : Nat) (ao4 : Option Addr) (cap4 : Nat) (ao5 : Option Addr) (cap5 : Nat) (ao6 : Option Addr) (cap6 : Nat) (w : World) (h : SkyAt w x ao3 cap3 ao4 cap4 ao5 cap5 ao6 cap6) (hT : TurnsLaid w) :
    Calls Tryz.prog 3 #[.agg (skyCells x ao3 cap3 ao4 cap4 ao5 cap5 ao6 cap6)] w fun e w' => e = .returned (.bool true) ∧ Below w.heap.size w w' := by
  by_cases hn : wSky x ≤ 1048576
  · exact law_small x ao3 cap3 ao4 cap4 ao5 cap5 ao6 cap6 w h hT hn
  · exact law_big x ao3 cap3 ao4 cap4 ao5 cap5 ao6 cap6 w h hn

end Go.Proofs.YtmfhbnelmbjkeabGreatDoor

/-
  For every sky, laws.FnExactSkyPrint returns true, and the sky reads behind the call as it read before: impl.SkyPrint answers as the specification's SkyPrint does and writes into no argument.
  The package's array of turn words and the library's three tables start as the program's text lays them: the given tie pays that (a tied card, Rows.FnExactSkyPrintCardSaid). No condition of ours.
-/
namespace Go.Proofs.YtmfhbnelmbjkeabGreatDoor
namespace ExactPrint
open Go.ChangeShapes Go.WideShapes Go.ChangeAt Go.RowKit
set_option linter.unusedVariables false

theorem own : ownKnob Tryz.prog.godebug = none := by kernel_rfl
theorem laidOut : laidOutB Tryz.prog = true := by kernel_rfl

set_option maxRecDepth 100000 in
theorem contract (H : Type) (enc : TypeId × Value → H) (W : World) (base : Nat) (args : Array Value) (ds gs : List (DataW H)) (before : List MemPlace)
    (hval : ∀ (j : Nat) t v, Tryz.f3.params[j]? = some t → args[j]? = some v → Value.okWide Tryz.prog W .any base t v)
    (hW : DataW.Whole enc Tryz.prog Tryz.f3.params.toList Rows.fnExactSkyPrintSpec.vars false W args.toList ds gs before) (hL : laidMetH Tryz.prog Rows.fnExactSkyPrintRow.laid W) :
    Calls Tryz.prog 3 args W fun e W' => ∃ v, e = .returned v ∧ Rows.fnExactSkyPrintSpec.post enc Tryz.prog Tryz.f3 false true false false W args v W' := by
  have hW' := hW
  have hT : TurnsLaid W := turns_of_laid (rest := []) hL
  obtain ⟨p, q, hA0, hV, rfl, hfz, hnd⟩ := hW
  have hA : DataW.TrodAll enc Tryz.prog W 0 (fun _ => true) true Tryz.f3.params.toList args.toList ds p := hA0
  rw [Tryz.params3] at hA hval
  have hlt := hA.lt
  obtain ⟨v0, vs0, d0, ds0, p0, q0, hargs, rfl, rfl, h0, r0⟩ := trodAll_cons hA
  obtain ⟨rfl, rfl, rfl⟩ := trodAll_nil r0
  obtain rfl : args = #[v0] := by cases args; simp_all
  obtain ⟨cs, rfl, hcs⟩ := okWide_struct Tryz.underlying27 (hval 0 27 v0 rfl rfl)
  obtain ⟨fuel, h1⟩ := h0
  obtain ⟨x, hx⟩ := opSky _ _ _ _ _ _ _ _ _ h1
  obtain ⟨ao3, cap3, ao4, cap4, ao5, cap5, ao6, cap6, hc, _, _, _, p3, p4, p5, p6⟩ := cells_Sky hx
  obtain rfl : cs = skyCells x ao3 cap3 ao4 cap4 ao5 cap5 ao6 cap6 := by
    apply Array.ext'
    exact hc
  obtain ⟨gd, hgs⟩ : ∃ g1, gs = [g1] := by
    obtain ⟨_, _, _, _, d, _, e, _⟩ := trodVars_one hV
    exact ⟨d, e⟩
  subst hgs
  clear hA0 hval hx hc hcs
  refine (law_any x ao3 cap3 ao4 cap4 ao5 cap5 ao6 cap6 W ⟨p3, p4, p5, p6⟩ hT).mono fun e W' ⟨he, bel⟩ => ?_
  subst he
  refine ⟨_, rfl, _, _, _, [], _, _, hW', trodAll_mk1 (shut_bool Tryz.underlying4 _), trodAll_cons_mk (Below.trod laidOut (by kernel_rfl) (of_decide_eq_true (by kernel_rfl)) ⟨fuel, h1⟩ bel (fun y hy => hlt y (by simp [hy]))) trodAll_mk0, Below.trodVars laidOut bel (by kernel_rfl) hV, bel.frame _, fun h => by cases h⟩

/-- A block's cells, laid. -/
def lay (cs : Array Value) : Obj → Obj
  | .cells _ t frozen => .cells cs t frozen
  | o => o
def tab32 : Array Value := #[.int .u8 0, .int .u8 1, .int .u8 28, .int .u8 2, .int .u8 29, .int .u8 14, .int .u8 24, .int .u8 3, .int .u8 30, .int .u8 22, .int .u8 20, .int .u8 15, .int .u8 25, .int .u8 17, .int .u8 4, .int .u8 8, .int .u8 31, .int .u8 27, .int .u8 13, .int .u8 23, .int .u8 21, .int .u8 19, .int .u8 16, .int .u8 7, .int .u8 26, .int .u8 12, .int .u8 18, .int .u8 6, .int .u8 11, .int .u8 5, .int .u8 10, .int .u8 9]
def tab64 : Array Value := #[.int .u8 0, .int .u8 1, .int .u8 56, .int .u8 2, .int .u8 57, .int .u8 49, .int .u8 28, .int .u8 3, .int .u8 61, .int .u8 58, .int .u8 42, .int .u8 50, .int .u8 38, .int .u8 29, .int .u8 17, .int .u8 4, .int .u8 62, .int .u8 47, .int .u8 59, .int .u8 36, .int .u8 45, .int .u8 43, .int .u8 51, .int .u8 22, .int .u8 53, .int .u8 39, .int .u8 33, .int .u8 30, .int .u8 24, .int .u8 18, .int .u8 12, .int .u8 5, .int .u8 63, .int .u8 55, .int .u8 48, .int .u8 27, .int .u8 60, .int .u8 41, .int .u8 37, .int .u8 16, .int .u8 46, .int .u8 35, .int .u8 44, .int .u8 21, .int .u8 52, .int .u8 32, .int .u8 23, .int .u8 11, .int .u8 54, .int .u8 26, .int .u8 40, .int .u8 15, .int .u8 34, .int .u8 20, .int .u8 31, .int .u8 10, .int .u8 25, .int .u8 14, .int .u8 19, .int .u8 9, .int .u8 13, .int .u8 8, .int .u8 7, .int .u8 6]
def pow10 : Array Value := #[.int .u64 1, .int .u64 10, .int .u64 100, .int .u64 1000, .int .u64 10000, .int .u64 100000, .int .u64 1000000, .int .u64 10000000, .int .u64 100000000, .int .u64 1000000000, .int .u64 10000000000, .int .u64 100000000000, .int .u64 1000000000000, .int .u64 10000000000000, .int .u64 100000000000000, .int .u64 1000000000000000, .int .u64 10000000000000000, .int .u64 100000000000000000, .int .u64 1000000000000000000, .int .u64 10000000000000000000]
/-- A world for the witness: the settled one, each listed array holding what its initialiser lays. -/
noncomputable def laidWorld (os : Os) : World :=
  { World.holding Tryz.prog os ⟨#[], #[], []⟩ with heap := (((((World.holding Tryz.prog os ⟨#[], #[], []⟩).heap.modify 0 (lay turnCells)).modify 3 (lay tab32)).modify 4 (lay tab64)).modify 1 (lay pow10)) }
def nothing : Value := .agg #[.int .i64 0, .int .i64 0, .int .i64 0, .slice none 0 0, .slice none 0 0, .slice none 0 0, .slice none 0 0]
theorem laid_met (os : Os) : laidMet Tryz.prog Rows.fnExactSkyPrintRow.laid ((laidWorld os).forCall (fun _ _ => 0) ⟨#[], #[nothing], []⟩).memory :=
  laidMet_of_run' 8 (by kernel_rfl) (by kernel_rfl)

theorem reads (os : Os) {H : Type} (enc : TypeId × Value → H) : ∃ places, DataW.whole enc Tryz.prog ((laidWorld os).forCall (fun _ _ => 0) ⟨#[], #[nothing], []⟩).memory Tryz.f3.params.toList Rows.fnExactSkyPrintSpec.vars false #[nothing].toList 8 = some ([.agg [.lit (.int .i64 0), .lit (.int .i64 0), .lit (.int .i64 0), .nil, .nil, .nil, .nil]], [.agg [.lit (.string [110]), .lit (.string [110, 101]), .lit (.string [101]), .lit (.string [115, 101]), .lit (.string [115]), .lit (.string [115, 119]), .lit (.string [119]), .lit (.string [110, 119])]], places) :=
  ⟨MemPlace.row ⟨0, 0, none⟩ 8, by kernel_rfl⟩

set_option maxRecDepth 100000 in
theorem lifted (os : Os) (started : os.Started) (H : Type) (enc : TypeId × Value → H) (F : Stop.Interp) :
    ReturnsInHanded {} Tryz.checked os 3 .any ((OpenSpec.ofChange Rows.fnExactSkyPrintSpec).preRow enc Tryz.prog Tryz.f3 Rows.fnExactSkyPrintRow.domain false Rows.fnExactSkyPrintRow.laid) (((OpenSpec.ofChange Rows.fnExactSkyPrintSpec).at F).post enc Tryz.prog Tryz.f3 false true false false) := by
  obtain ⟨places, hx⟩ := reads os enc
  refine returnsInHanded_of_row (C := Tryz.checked) (s := OpenSpec.ofChange Rows.fnExactSkyPrintSpec) own started (by kernel_rfl) Tryz.func3
    (witness_row_at (enc := enc) (C := Tryz.checked) false (laidWorld os) #[nothing] rfl (by kernel_rfl) (by kernel_rfl) (by kernel_rfl)
      (OpenSpec.preRow_of_cond 8 hx (by kernel_rfl) (fun k hk => by cases hk) (by kernel_rfl) (laid_met os))) ?_
  intro W base args ds gs before hval hW _ _ _ hL _ _
  exact contract H enc W base args ds gs before hval hW hL

theorem said : Rows.FnExactSkyPrintSaid :=
  OpenClaim.holds_of_cond 3 Tryz.f3 rfl rfl rfl rfl rfl rfl rfl ⟨rfl, rfl, rfl, rfl, rfl⟩ rfl rfl rfl rfl rfl (by kernel_rfl) Tryz.func3 (by kernel_rfl)
    (of_decide_eq_true (by kernel_rfl)) (by unfold Func.isWrapper; first | (rw [if_pos (by decide +kernel)]; kernel_rfl) | (rw [if_neg (by decide +kernel)]; exact ⟨rfl, rfl⟩))
    (fun os started H enc _ F => by rw [OpenClaim.pre_eq_preRow]; exact lifted os started H enc F)

theorem plain (f : FuncId) (fn : Func) (hf : Tryz.pinned.checked.prog.funcNamed "loop.example/lapwing/laws.FnExactSkyPrint" = some f) (hfn : Tryz.pinned.checked.prog.funcs[f]? = some fn) :
    false = Tryz.pinned.checked.prog.looks [] ∧ ∀ (j : Nat) t, fn.params[j]? = some t → Tryz.pinned.checked.prog.wantsStandIn t = false := by
  obtain rfl : f = 3 := Option.some.inj ((show Tryz.prog.funcNamed "loop.example/lapwing/laws.FnExactSkyPrint" = some 3 by kernel_rfl).symm.trans hf) |>.symm
  obtain rfl : fn = Tryz.f3 := (Option.some.inj (Tryz.func3.symm.trans hfn)).symm
  refine ⟨by kernel_rfl, fun j t ht => ?_⟩
  rw [Tryz.params3] at ht
  obtain rfl : t = 27 := by simpa using Array.mem_of_getElem? ht
  exact (show Tryz.prog.wantsStandIn 27 = false by kernel_rfl)

end ExactPrint

/-- The card. -/
theorem exactPrint_proved : Rows.FnExactSkyPrintCardSaid :=
  Claim7.holds_tied_plain_at .later [] _ _ _ _ ExactPrint.said (fun _ h => by cases h) (by kernel_rfl) (fun _ h => by cases h) fnExactSkyPrint_row_tie rfl ⟨rfl, rfl⟩ (by kernel_rfl) rfl ExactPrint.plain (by kernel_rfl)
#print axioms exactPrint_proved
end Go.Proofs.YtmfhbnelmbjkeabGreatDoor
