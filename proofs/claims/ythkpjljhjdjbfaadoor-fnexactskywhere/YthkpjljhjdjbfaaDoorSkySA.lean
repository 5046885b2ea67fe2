/- DERIVED. spec.SkyValid: its walk. -/
import Derived.Test.YthkpjljhjdjbfaaDoorSkyS9
namespace Go.Proofs.YthkpjljhjdjbfaaDoor
open Go.RowKit
set_option linter.unusedSimpArgs false
set_option linter.unusedVariables false

set_option maxRecDepth 100000 in
set_option maxHeartbeats 4000000 in
theorem sSkyValid_any (W H L : Int) (ps : List DSkyPoint) (aw : List DSkyAirway) (ss : List DSkySector) (rs : List DSkyRunway) (ao3 : Option Addr) (cap3 : Nat) (ao4 : Option Addr) (cap4 : Nat) (ao5 : Option Addr) (cap5 : Nat) (ao6 : Option Addr) (cap6 : Nat) (w : World)
    (h : SkyAt w (W, H, L, ps, aw, ss, rs) ao3 cap3 ao4 cap4 ao5 cap5 ao6 cap6) :
    Calls Tryd.prog 14 #[.agg #[.int .i64 W, .int .i64 H, .int .i64 L, .slice ao3 ps.length cap3, .slice ao4 aw.length cap4, .slice ao5 ss.length cap5, .slice ao6 rs.length cap6]] w fun e w' => ((ValidSky (W, H, L, ps, aw, ss, rs) ∧ e = .returned (.bool true)) ∨ (¬ ValidSky (W, H, L, ps, aw, ss, rs) ∧ e = .returned (.bool false))) ∧ Below w.heap.size w w' := by
  have hb0 : Below w.heap.size w (w.alloc (.cells #[.int .i64 W, .int .i64 H, .int .i64 L, .slice ao3 ps.length cap3, .slice ao4 aw.length cap4, .slice ao5 ss.length cap5, .slice ao6 rs.length cap6] 38)) := (Below.refl _ _).alloc (Nat.le_refl _) _
  by_cases hs : SizeOk (W, H, L, ps, aw, ss, rs)
  · have h1 : InR W 1 16 := hs.1
    have h2 : InR H 1 16 := hs.2.1
    have h3 : InR L 1 6 := hs.2.2
    have hbox : ∀ W' : World, Below (w.heap.size + 1) (w.alloc (.cells #[.int .i64 W, .int .i64 H, .int .i64 L, .slice ao3 ps.length cap3, .slice ao4 aw.length cap4, .slice ao5 ss.length cap5, .slice ao6 rs.length cap6] 38)) W' → ∀ i, W'.cell? ⟨w.heap.size, i, none⟩ = (#[Value.int .i64 W, .int .i64 H, .int .i64 L, .slice ao3 ps.length cap3, .slice ao4 aw.length cap4, .slice ao5 ss.length cap5, .slice ao6 rs.length cap6] : Array Value)[i]? := fun W' h i => box_cell h i
    have HBX : Hid (∀ W' : World, Below (w.heap.size + 1) (w.alloc (.cells #[.int .i64 W, .int .i64 H, .int .i64 L, .slice ao3 ps.length cap3, .slice ao4 aw.length cap4, .slice ao5 ss.length cap5, .slice ao6 rs.length cap6] 38)) W' → ∀ i, W'.cell? ⟨w.heap.size, i, none⟩ = (#[Value.int .i64 W, .int .i64 H, .int .i64 L, .slice ao3 ps.length cap3, .slice ao4 aw.length cap4, .slice ao5 ss.length cap5, .slice ao6 rs.length cap6] : Array Value)[i]?) := hbox
    clear hbox
    go_enter Tryd.func14, Tryd.ntmps14
    go_wp2_with (go_at_call 30; refine (in_yes _ _ _ _ (by assumption)).mono ?_; rintro e w' ⟨rfl, hww⟩; obtain rfl := hww.symm)
    have hbz : Below (w.heap.size + 1) (w.alloc (.cells #[.int .i64 W, .int .i64 H, .int .i64 L, .slice ao3 ps.length cap3, .slice ao4 aw.length cap4, .slice ao5 ss.length cap5, .slice ao6 rs.length cap6] 38)) (w.alloc (.cells #[.int .i64 W, .int .i64 H, .int .i64 L, .slice ao3 ps.length cap3, .slice ao4 aw.length cap4, .slice ao5 ss.length cap5, .slice ao6 rs.length cap6] 38)) := Below.refl _ _
    have hs0 : w.heap.size + 1 ≤ (w.alloc (.cells #[.int .i64 W, .int .i64 H, .int .i64 L, .slice ao3 ps.length cap3, .slice ao4 aw.length cap4, .slice ao5 ss.length cap5, .slice ao6 rs.length cap6] 38)).heap.size := by simp
    have hw0 : Below w.heap.size w (w.alloc (.cells #[.int .i64 W, .int .i64 H, .int .i64 L, .slice ao3 ps.length cap3, .slice ao4 aw.length cap4, .slice ao5 ss.length cap5, .slice ao6 rs.length cap6] 38)) := hb0
    have HS : Hid (SizeOk (W, H, L, ps, aw, ss, rs)) := hs
    have hp := specPoints_any (W, H, L, ps, aw, ss, rs) ao3 cap3 ao4 cap4 ao5 cap5 ao6 cap6 (w.alloc (.cells #[.int .i64 W, .int .i64 H, .int .i64 L, .slice ao3 ps.length cap3, .slice ao4 aw.length cap4, .slice ao5 ss.length cap5, .slice ao6 rs.length cap6] 38)) (h.later hb0) hs
    simp only [skyCells] at hp
    refine hp.mono ?_
    rintro e w1 ⟨b1, rfl, hi1, hb1⟩
    have hbx1 : Below (w.heap.size + 1) (w.alloc (.cells #[.int .i64 W, .int .i64 H, .int .i64 L, .slice ao3 ps.length cap3, .slice ao4 aw.length cap4, .slice ao5 ss.length cap5, .slice ao6 rs.length cap6] 38)) w1 := hb1.mono (by simp)
    have hw1 : Below w.heap.size w w1 := box_below hbx1
    clear hp hb1 hbz hs0 hw0 hb0
    cases b1
    · have HF : Hid (¬ ValidSky (W, H, L, ps, aw, ss, rs)) := by
        have : ¬ (PointsOk W H ps) := fun h => by have := hi1.2 h; cases this
        exact fun h => this h.2.1
      clear hi1
      go_wp2
      go_ret
      exact ⟨.inr ⟨HF.out, rfl⟩, hw1⟩
    · have HP1 : Hid (PointsOk W H ps) := hi1.1 rfl
      clear hi1
      have z0 := HBX.out w1 hbx1 0
      have z1 := HBX.out w1 hbx1 1
      have z2 := HBX.out w1 hbx1 2
      have z3 := HBX.out w1 hbx1 3
      have z4 := HBX.out w1 hbx1 4
      have z5 := HBX.out w1 hbx1 5
      have z6 := HBX.out w1 hbx1 6
      simp at z0 z1 z2 z3 z4 z5 z6
      have hps : ps.length ≤ 1000 := by have := HP1.out.1; omega
      have hp := specAirways_any (W, H, L, ps, aw, ss, rs) ao3 cap3 ao4 cap4 ao5 cap5 ao6 cap6 w1 (h.later hw1) hps
      simp only [skyCells] at hp
      go_wp2_with fail
      refine hp.mono ?_
      rintro e w2 ⟨b2, rfl, hi2, hb2⟩
      have hbx2 : Below (w.heap.size + 1) (w.alloc (.cells #[.int .i64 W, .int .i64 H, .int .i64 L, .slice ao3 ps.length cap3, .slice ao4 aw.length cap4, .slice ao5 ss.length cap5, .slice ao6 rs.length cap6] 38)) w2 := hbx1.trans (hb2.mono (by have := hbx1.size; simpa using this))
      have hw2 : Below w.heap.size w w2 := box_below hbx2
      clear hp hb2 z0 z1 z2 z3 z4 z5 z6
      cases b2
      · have HF : Hid (¬ ValidSky (W, H, L, ps, aw, ss, rs)) := by
          have : ¬ (AirwaysOk ps aw) := fun h => by have := hi2.2 h; cases this
          exact fun h => this h.2.2.1
        clear hi2
        go_wp2
        go_ret
        exact ⟨.inr ⟨HF.out, rfl⟩, hw2⟩
      · have HP2 : Hid (AirwaysOk ps aw) := hi2.1 rfl
        clear hi2
        have z0 := HBX.out w2 hbx2 0
        have z1 := HBX.out w2 hbx2 1
        have z2 := HBX.out w2 hbx2 2
        have z3 := HBX.out w2 hbx2 3
        have z4 := HBX.out w2 hbx2 4
        have z5 := HBX.out w2 hbx2 5
        have z6 := HBX.out w2 hbx2 6
        simp at z0 z1 z2 z3 z4 z5 z6
        have hp := specSectors_any (W, H, L, ps, aw, ss, rs) ao3 cap3 ao4 cap4 ao5 cap5 ao6 cap6 w2 (h.later hw2)
        simp only [skyCells] at hp
        go_wp2_with fail
        refine hp.mono ?_
        rintro e w3 ⟨b3, rfl, hi3, hb3⟩
        have hbx3 : Below (w.heap.size + 1) (w.alloc (.cells #[.int .i64 W, .int .i64 H, .int .i64 L, .slice ao3 ps.length cap3, .slice ao4 aw.length cap4, .slice ao5 ss.length cap5, .slice ao6 rs.length cap6] 38)) w3 := hbx2.trans (hb3.mono (by have := hbx2.size; simpa using this))
        have hw3 : Below w.heap.size w w3 := box_below hbx3
        clear hp hb3 z0 z1 z2 z3 z4 z5 z6
        cases b3
        · have HF : Hid (¬ ValidSky (W, H, L, ps, aw, ss, rs)) := by
            have : ¬ (SectorsOk W H L ss) := fun h => by have := hi3.2 h; cases this
            exact fun h => this h.2.2.2.1
          clear hi3
          go_wp2
          go_ret
          exact ⟨.inr ⟨HF.out, rfl⟩, hw3⟩
        · have HP3 : Hid (SectorsOk W H L ss) := hi3.1 rfl
          clear hi3
          have z0 := HBX.out w3 hbx3 0
          have z1 := HBX.out w3 hbx3 1
          have z2 := HBX.out w3 hbx3 2
          have z3 := HBX.out w3 hbx3 3
          have z4 := HBX.out w3 hbx3 4
          have z5 := HBX.out w3 hbx3 5
          have z6 := HBX.out w3 hbx3 6
          simp at z0 z1 z2 z3 z4 z5 z6
          have hp0 := specCovers_any W H L (.slice ao3 ps.length cap3) (.slice ao4 aw.length cap4) ao5 cap5 ss (.slice ao6 rs.length cap6) w3 HS.out.1 HS.out.2.1 HS.out.2.2 (h.p5.later hw3) HP3.out
          have hp : Calls Tryd.prog 34 #[.agg #[.int .i64 W, .int .i64 H, .int .i64 L, .slice ao3 ps.length cap3, .slice ao4 aw.length cap4, .slice ao5 ss.length cap5, .slice ao6 rs.length cap6]] w3 fun e w' => ∃ b : Bool, e = .returned (.bool b) ∧ (b = true ↔ Covers W H L (allBlocks ss)) ∧ Below w3.heap.size w3 w' := hp0.mono fun e w' h1 => by
            rcases h1.1 with ⟨h2, h3⟩ | ⟨h2, h3⟩
            · exact ⟨true, h3, ⟨fun _ => h2, fun _ => rfl⟩, h1.2⟩
            · exact ⟨false, h3, ⟨fun h4 => (by cases h4), fun h4 => absurd h4 h2⟩, h1.2⟩
          clear hp0
          go_wp2_with fail
          refine hp.mono ?_
          rintro e w4 ⟨b4, rfl, hi4, hb4⟩
          have hbx4 : Below (w.heap.size + 1) (w.alloc (.cells #[.int .i64 W, .int .i64 H, .int .i64 L, .slice ao3 ps.length cap3, .slice ao4 aw.length cap4, .slice ao5 ss.length cap5, .slice ao6 rs.length cap6] 38)) w4 := hbx3.trans (hb4.mono (by have := hbx3.size; simpa using this))
          have hw4 : Below w.heap.size w w4 := box_below hbx4
          clear hp hb4 z0 z1 z2 z3 z4 z5 z6
          cases b4
          · have HF : Hid (¬ ValidSky (W, H, L, ps, aw, ss, rs)) := by
              have : ¬ (Covers W H L (allBlocks ss)) := fun h => by have := hi4.2 h; cases this
              exact fun h => this h.2.2.2.2.1
            clear hi4
            go_wp2
            go_ret
            exact ⟨.inr ⟨HF.out, rfl⟩, hw4⟩
          · have HP4 : Hid (Covers W H L (allBlocks ss)) := hi4.1 rfl
            clear hi4
            have z0 := HBX.out w4 hbx4 0
            have z1 := HBX.out w4 hbx4 1
            have z2 := HBX.out w4 hbx4 2
            have z3 := HBX.out w4 hbx4 3
            have z4 := HBX.out w4 hbx4 4
            have z5 := HBX.out w4 hbx4 5
            have z6 := HBX.out w4 hbx4 6
            simp at z0 z1 z2 z3 z4 z5 z6
            have hp := specRunways_any (W, H, L, ps, aw, ss, rs) ao3 cap3 ao4 cap4 ao5 cap5 ao6 cap6 w4 (h.later hw4) HS.out
            simp only [skyCells] at hp
            go_wp2_with fail
            refine hp.mono ?_
            rintro e w5 ⟨b5, rfl, hi5, hb5⟩
            have hbx5 : Below (w.heap.size + 1) (w.alloc (.cells #[.int .i64 W, .int .i64 H, .int .i64 L, .slice ao3 ps.length cap3, .slice ao4 aw.length cap4, .slice ao5 ss.length cap5, .slice ao6 rs.length cap6] 38)) w5 := hbx4.trans (hb5.mono (by have := hbx4.size; simpa using this))
            have hw5 : Below w.heap.size w w5 := box_below hbx5
            clear hp hb5 z0 z1 z2 z3 z4 z5 z6
            cases b5
            · have HF : Hid (¬ ValidSky (W, H, L, ps, aw, ss, rs)) := by
                have : ¬ (RunwaysOk W H rs) := fun h => by have := hi5.2 h; cases this
                exact fun h => this h.2.2.2.2.2
              clear hi5
              go_wp2
              go_ret
              exact ⟨.inr ⟨HF.out, rfl⟩, hw5⟩
            · have HY : Hid (ValidSky (W, H, L, ps, aw, ss, rs)) := ⟨HS.out, HP1.out, HP2.out, HP3.out, HP4.out, hi5.1 rfl⟩
              clear hi5
              go_wp2
              go_ret
              exact ⟨.inl ⟨HY.out, rfl⟩, hw5⟩
  · have HF : Hid (¬ ValidSky (W, H, L, ps, aw, ss, rs)) := fun h => hs h.1
    by_cases h1 : InR W 1 16
    · by_cases h2 : InR H 1 16
      · have h3 : ¬ InR L 1 6 := fun h3 => hs ⟨h1, h2, h3⟩
        go_enter Tryd.func14, Tryd.ntmps14
        go_wp2_with (first | (go_at_call 30; refine (in_yes _ _ _ _ (by assumption)).mono ?_; rintro e w' ⟨rfl, hww⟩; obtain rfl := hww.symm) | (go_at_call 30; refine (in_no _ _ _ _ (by assumption)).mono ?_; rintro e w' ⟨rfl, hww⟩; obtain rfl := hww.symm))
        go_ret
        exact ⟨.inr ⟨HF.out, rfl⟩, hb0⟩
      · go_enter Tryd.func14, Tryd.ntmps14
        go_wp2_with (first | (go_at_call 30; refine (in_yes _ _ _ _ (by assumption)).mono ?_; rintro e w' ⟨rfl, hww⟩; obtain rfl := hww.symm) | (go_at_call 30; refine (in_no _ _ _ _ (by assumption)).mono ?_; rintro e w' ⟨rfl, hww⟩; obtain rfl := hww.symm))
        go_ret
        exact ⟨.inr ⟨HF.out, rfl⟩, hb0⟩
    · go_enter Tryd.func14, Tryd.ntmps14
      go_wp2_with (first | (go_at_call 30; refine (in_yes _ _ _ _ (by assumption)).mono ?_; rintro e w' ⟨rfl, hww⟩; obtain rfl := hww.symm) | (go_at_call 30; refine (in_no _ _ _ _ (by assumption)).mono ?_; rintro e w' ⟨rfl, hww⟩; obtain rfl := hww.symm))
      go_ret
      exact ⟨.inr ⟨HF.out, rfl⟩, hb0⟩

theorem sSkyValid (x : DSky) (ao3 : Option Addr) (cap3 : Nat) (ao4 : Option Addr) (cap4 : Nat) (ao5 : Option Addr) (cap5 : Nat) (ao6 : Option Addr) (cap6 : Nat) (w : World) (h : SkyAt w x ao3 cap3 ao4 cap4 ao5 cap5 ao6 cap6) :
    Calls Tryd.prog 14 #[.agg (skyCells x ao3 cap3 ao4 cap4 ao5 cap5 ao6 cap6)] w fun e w' => ((ValidSky x ∧ e = .returned (.bool true)) ∨ (¬ ValidSky x ∧ e = .returned (.bool false))) ∧ Below w.heap.size w w' :=
  sSkyValid_any x.1 x.2.1 x.2.2.1 x.2.2.2.1 x.2.2.2.2.1 x.2.2.2.2.2.1 x.2.2.2.2.2.2 ao3 cap3 ao4 cap4 ao5 cap5 ao6 cap6 w h

end Go.Proofs.YthkpjljhjdjbfaaDoor
