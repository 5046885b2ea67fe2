/- DERIVED. laws.FnExactPlanFits: its walk (written by wip/tools/mk_bl2.py). -/
import Derived.Test.YtohgkiljdehefaaPgI4
import Derived.Test.YtohgkiljdehefaaPfS2
import Derived.Deep.RegionWith
namespace Go.Proofs.Ytohgkiljdehefaa
open Go.RowKit
set_option linter.unusedSimpArgs false
set_option linter.unusedVariables false

set_option maxRecDepth 100000 in
set_option maxHeartbeats 2000000 in
theorem fitsLaw_small (x : DPlanBase) (ao0 : Option Addr) (cap0 : Nat) (ao1 : Option Addr) (cap1 : Nat) (wh : Int) (v : ByteArray) (w : World) (h : BaseAt w x ao0 cap0 ao1 cap1) (hwh : In64 wh) (hv : v.size ≤ 1048576) (hn : wPlanBase x ≤ 1048576) :
    Calls Try.prog 4 #[.agg #[.slice ao0 x.1.length cap0, .slice ao1 x.2.length cap1], .int .i64 wh, .string v] w fun e w' => e = .returned (.bool true) ∧ Below w.heap.size w w' := by
  have hsz : szR 1048576 (wPlanBase x) = 1048576 - (wPlanBase x : Int) := szR_yes (by omega)
  have hnn : ¬ szR 1048576 (wPlanBase x) < 0 := by rw [hsz]; omega
  have hvI : ¬ (1048576 : Int) < (v.size : Int) := by omega
  have hb0 : Below w.heap.size w (w.alloc (.cells #[.slice ao0 x.1.length cap0, .slice ao1 x.2.length cap1] 25)) := (Below.refl _ _).alloc (Nat.le_refl _) _
  have HB0 := BxC.new w #[.slice ao0 x.1.length cap0, .slice ao1 x.2.length cap1] 25
  have hA := h.later hb0
  clear hsz
  go_enter Try.func4, Try.ntmps4
  go_wp2_with fail
  refine (szPlanBase_any x ao0 cap0 ao1 cap1 1048576 _ (by omega) (by omega) hA.p0 hA.p1).mono ?_
  rintro e w1 ⟨rfl, hb1⟩
  have HB1 := HB0.below hb1 (by simp)
  have hB1 := hb0.trans (hb1.mono hb0.size)
  have hz1 : w.heap.size < w1.heap.size := by have := hb1.size; simp at this; omega
  have hA1 := h.later hB1
  have z0 := HB1 0
  have z1 := HB1 1
  simp at z0 z1
  clear hb1 hb0 hA HB0
  go_wp2_with fail
  refine (toPlanBase_any x ao0 cap0 ao1 cap1 w1 hA1.p0 hA1.p1 hn).mono ?_
  rintro e w2 ⟨ao0', cap0', ao1', cap1', rfl, p0, p1, hb2⟩
  have HB2 := HB1.below hb2 hz1
  have hB2 := hB1.trans (hb2.mono hB1.size)
  have hz2 : w.heap.size < w2.heap.size := Nat.lt_of_lt_of_le hz1 hb2.size
  have hS2 := baseAt_of p0 p1
  clear z0 z1 p0 p1 hb2 HB1
  go_wp2_with fail
  refine (sFits x ao0' cap0' ao1' cap1' wh v w2 hS2 hwh hv).mono ?_
  rintro e w3 ⟨rfl, hb3⟩
  have HB3 := HB2.below hb3 hz2
  have hB3 := hB2.trans (hb3.mono hB2.size)
  have hz3 : w.heap.size < w3.heap.size := Nat.lt_of_lt_of_le hz2 hb3.size
  have hA3 := h.later hB3
  have z0 := HB3 0
  have z1 := HB3 1
  simp at z0 z1
  clear hb3 hS2 HB2 hA1
  go_wp2_with fail
  refine (toPlanBase_any x ao0 cap0 ao1 cap1 w3 hA3.p0 hA3.p1 hn).mono ?_
  rintro e w4 ⟨ao0q, cap0q, ao1q, cap1q, rfl, p0, p1, hb4⟩
  have HB4 := HB3.below hb4 hz3
  have hB4 := hB3.trans (hb4.mono hB3.size)
  have hz4 : w.heap.size < w4.heap.size := Nat.lt_of_lt_of_le hz3 hb4.size
  have hS4 := baseAt_of p0 p1
  have hbq : Below w4.heap.size w4 (w4.alloc (.cells #[.slice ao0q x.1.length cap0q, .slice ao1q x.2.length cap1q] 31)) := (Below.refl _ _).alloc (Nat.le_refl _) _
  have HQ4 := BxC.new w4 #[.slice ao0q x.1.length cap0q, .slice ao1q x.2.length cap1q] 31
  have hS4' := hS4.later hbq
  clear z0 z1 p0 p1 hb4 HB3
  go_wp2_with fail
  refine (iFits x ao0q cap0q ao1q cap1q wh v _ hS4' hwh hv).mono ?_
  rintro e w5 ⟨rfl, hb5⟩
  have hB45 := hbq.trans (hb5.mono hbq.size)
  have HB5 := HB4.below hB45 hz4
  have HQ5 := HQ4.below hb5 (by simp)
  have hB5 := hB4.trans (hB45.mono hB4.size)
  have hA5 := h.later hB5
  have hS5 := hS4'.later hb5
  have z0 := HB5 0
  have z1 := HB5 1
  have y0 := HQ5 0
  have y1 := HQ5 1
  simp at z0 z1 y0 y1
  have hw45 : w4.heap.size < w5.heap.size := by have := hb5.size; simp at this; omega
  generalize pb (FitsOk x wh v) = bv
  have hbne : (bv != bv) = false := by simp
  clear hb5 hS4 hS4' hbq hB45 hB4 hB3 hB2 hB1 HB4 HQ4 HB5 HQ5 hA3
  go_wp2
  have hbd : Below w5.heap.size w5 w5.drew := (Below.refl _ _).drew
  have hA5d := hA5.later hbd
  have hS5d := hS5.later hbd
  have HTO := toPlanBase_any x ao0 cap0 ao1 cap1 w5.drew hA5d.p0 hA5d.p1 hn
  clear hA5 hS5
  go_region_with (first | (go_at_call 10; refine HTO.mono ?_; rintro e w6 ⟨ao0r, cap0r, ao1r, cap1r, rfl, p0, p1, hb6⟩; have k0 := (hb6.cell (p := ⟨w4.heap.size, 0, none⟩) hw45).trans y0; have k1 := (hb6.cell (p := ⟨w4.heap.size, 1, none⟩) hw45).trans y1) | (go_at_call 12; refine (eqPlanBase_any x ao0q cap0q ao1q cap1q ao0r cap0r ao1r cap1r _ (hS5d.p0.later hb6) (p0.mono fresh_old) (hS5d.p1.later hb6) (p1.mono fresh_old) hn).mono ?_; rintro e w7 ⟨rfl, hb7⟩))
  all_goals
    go_wp2
    go_ret
    exact ⟨rfl, ((hB5.trans (hbd.mono hB5.size)).trans (hb6.mono (by have := hB5.size; simpa using this))).trans (hb7.mono (by have h1 := hb6.size; have h2 := hB5.size; simp at h1; omega))⟩

set_option maxRecDepth 100000 in
theorem fitsLaw (x : DPlanBase) (ao0 : Option Addr) (cap0 : Nat) (ao1 : Option Addr) (cap1 : Nat) (wh : Int) (v : ByteArray) (w : World) (h : BaseAt w x ao0 cap0 ao1 cap1) (hwh : In64 wh) (hvm : v.size ≤ maxLen) :
    Calls Try.prog 4 #[.agg #[.slice ao0 x.1.length cap0, .slice ao1 x.2.length cap1], .int .i64 wh, .string v] w fun e w' => e = .returned (.bool true) ∧ Below w.heap.size w w' := by
  unfold maxLen at hvm
  have hb0 : Below w.heap.size w (w.alloc (.cells #[.slice ao0 x.1.length cap0, .slice ao1 x.2.length cap1] 25)) := (Below.refl _ _).alloc (Nat.le_refl _) _
  by_cases hv : v.size ≤ 1048576
  · by_cases hn : wPlanBase x ≤ 1048576
    · exact fitsLaw_small x ao0 cap0 ao1 cap1 wh v w h hwh hv hn
    · have hsz : szR 1048576 (wPlanBase x) = -1 := szR_no (by omega)
      have hvI : ¬ (1048576 : Int) < (v.size : Int) := by omega
      have hA := h.later hb0
      have HSZ := szPlanBase_any x ao0 cap0 ao1 cap1 1048576 _ (by omega) (by omega) hA.p0 hA.p1
      rw [hsz] at HSZ
      clear hsz
      go_enter Try.func4, Try.ntmps4
      go_wp2_with fail
      refine HSZ.mono ?_
      rintro e w1 ⟨rfl, hb1⟩
      clear HSZ
      go_wp2
      go_ret
      exact ⟨rfl, hb0.trans (hb1.mono hb0.size)⟩
  · have hvI : (1048576 : Int) < (v.size : Int) := by omega
    go_enter Try.func4, Try.ntmps4
    go_wp2
    go_ret
    exact ⟨rfl, hb0⟩

end Go.Proofs.Ytohgkiljdehefaa
