/- DERIVED. laws.FnExactPlanBookOk: its walk (written by wip/tools/mk_bkl.py). -/
import Derived.Test.YtohgkiljdehefaaBkI1
import Derived.Test.YtohgkiljdehefaaBkS1
import Derived.Test.YtohgkiljdehefaaBkL0
import Derived.Deep.RegionWith
namespace Go.Proofs.Ytohgkiljdehefaa
open Go.RowKit
set_option linter.unusedSimpArgs false
set_option linter.unusedVariables false

set_option maxRecDepth 100000 in
set_option maxHeartbeats 2000000 in
theorem bookLaw_small (x : DPlanBook) (ao0 : Option Addr) (cap0 : Nat) (ao1 : Option Addr) (cap1 : Nat) (ao2 : Option Addr) (cap2 : Nat) (w : World) (h : BookAt w x ao0 cap0 ao1 cap1 ao2 cap2) (hn : wPlanBook x ≤ 1048576) :
    Calls Try.prog 6 #[.agg #[.slice ao0 x.1.1.length cap0, .slice ao1 x.1.2.length cap1, .slice ao2 x.2.length cap2]] w fun e w' => e = .returned (.bool true) ∧ Below w.heap.size w w' := by
  have hn2 : wPlanEntryS x.2 ≤ 1048576 := by unfold wPlanBook at hn; omega
  have hsz : szR 1048576 (wPlanBook x) = 1048576 - (wPlanBook x : Int) := szR_yes (by omega)
  have hnn : ¬ szR 1048576 (wPlanBook x) < 0 := by rw [hsz]; omega
  have hb0 : Below w.heap.size w (w.alloc (.cells #[.slice ao0 x.1.1.length cap0, .slice ao1 x.1.2.length cap1, .slice ao2 x.2.length cap2] 46)) := (Below.refl _ _).alloc (Nat.le_refl _) _
  have HB0 := BxC.new w #[.slice ao0 x.1.1.length cap0, .slice ao1 x.1.2.length cap1, .slice ao2 x.2.length cap2] 46
  have hA := h.later hb0
  clear hsz
  go_enter Try.func6, Try.ntmps6
  go_wp2_with fail
  refine (szPlanBook_any x ao0 cap0 ao1 cap1 ao2 cap2 1048576 _ (by omega) (by omega) hA.p0 hA.p1 hA.p2).mono ?_
  rintro e w1 ⟨rfl, hb1⟩
  have HB1 := HB0.below hb1 (by simp)
  have hB1 := hb0.trans (hb1.mono hb0.size)
  have hz1 : w.heap.size < w1.heap.size := by have := hb1.size; simp at this; omega
  have hA1 := h.later hB1
  have z0 := HB1 0
  have z1 := HB1 1
  have z2 := HB1 2
  simp at z0 z1 z2
  clear hb1 hb0 hA HB0
  go_wp2_with fail
  refine (toPlanBook_any x ao0 cap0 ao1 cap1 ao2 cap2 w1 hA1.p0 hA1.p1 hA1.p2 hn).mono ?_
  rintro e w2 ⟨ao0', cap0', ao1', cap1', ao2', cap2', rfl, p0, p1, p2, hb2⟩
  have HB2 := HB1.below hb2 hz1
  have hB2 := hB1.trans (hb2.mono hB1.size)
  have hz2 : w.heap.size < w2.heap.size := Nat.lt_of_lt_of_le hz1 hb2.size
  have hS2 := bookAt_of p0 p1 p2
  clear z0 z1 z2 p0 p1 p2 hb2 HB1
  go_wp2_with fail
  refine (sBook x ao0' cap0' ao1' cap1' ao2' cap2' w2 hS2.base hS2.p2 hn2).mono ?_
  rintro e w3 ⟨rfl, hb3⟩
  have HB3 := HB2.below hb3 hz2
  have hB3 := hB2.trans (hb3.mono hB2.size)
  have hz3 : w.heap.size < w3.heap.size := Nat.lt_of_lt_of_le hz2 hb3.size
  have hA3 := h.later hB3
  have z0 := HB3 0
  have z1 := HB3 1
  have z2 := HB3 2
  simp at z0 z1 z2
  clear hb3 hS2 HB2 hA1
  go_wp2_with fail
  refine (toPlanBook_any x ao0 cap0 ao1 cap1 ao2 cap2 w3 hA3.p0 hA3.p1 hA3.p2 hn).mono ?_
  rintro e w4 ⟨ao0q, cap0q, ao1q, cap1q, ao2q, cap2q, rfl, p0, p1, p2, hb4⟩
  have HB4 := HB3.below hb4 hz3
  have hB4 := hB3.trans (hb4.mono hB3.size)
  have hz4 : w.heap.size < w4.heap.size := Nat.lt_of_lt_of_le hz3 hb4.size
  have hS4 := bookAt_of p0 p1 p2
  have hbq : Below w4.heap.size w4 (w4.alloc (.cells #[.slice ao0q x.1.1.length cap0q, .slice ao1q x.1.2.length cap1q, .slice ao2q x.2.length cap2q] 51)) := (Below.refl _ _).alloc (Nat.le_refl _) _
  have HQ4 := BxC.new w4 #[.slice ao0q x.1.1.length cap0q, .slice ao1q x.1.2.length cap1q, .slice ao2q x.2.length cap2q] 51
  have hS4' := hS4.later hbq
  clear z0 z1 z2 p0 p1 p2 hb4 HB3
  go_wp2_with fail
  refine (iBook x ao0q cap0q ao1q cap1q ao2q cap2q _ hS4'.base hS4'.p2 hn2).mono ?_
  rintro e w5 ⟨rfl, hb5⟩
  have hB45 := hbq.trans (hb5.mono hbq.size)
  have HB5 := HB4.below hB45 hz4
  have HQ5 := HQ4.below hb5 (by simp)
  have hB5 := hB4.trans (hB45.mono hB4.size)
  have hA5 := h.later hB5
  have hS5 := hS4'.later hb5
  have z0 := HB5 0
  have z1 := HB5 1
  have z2 := HB5 2
  have y0 := HQ5 0
  have y1 := HQ5 1
  have y2 := HQ5 2
  simp at z0 z1 z2 y0 y1 y2
  have hw45 : w4.heap.size < w5.heap.size := by have := hb5.size; simp at this; omega
  generalize pb (BookOk x) = bv
  have hbne : (bv != bv) = false := by simp
  clear hb5 hS4 hS4' hbq hB45 hB4 hB3 hB2 hB1 HB4 HQ4 HB5 HQ5 hA3
  go_wp2
  have hbd : Below w5.heap.size w5 w5.drew := (Below.refl _ _).drew
  have hA5d := hA5.later hbd
  have hS5d := hS5.later hbd
  have HTO := toPlanBook_any x ao0 cap0 ao1 cap1 ao2 cap2 w5.drew hA5d.p0 hA5d.p1 hA5d.p2 hn
  clear hA5 hS5
  go_region_with (first | (go_at_call 21; refine HTO.mono ?_; rintro e w6 ⟨ao0r, cap0r, ao1r, cap1r, ao2r, cap2r, rfl, p0, p1, p2, hb6⟩; have k0 := (hb6.cell (p := ⟨w4.heap.size, 0, none⟩) hw45).trans y0; have k1 := (hb6.cell (p := ⟨w4.heap.size, 1, none⟩) hw45).trans y1; have k2 := (hb6.cell (p := ⟨w4.heap.size, 2, none⟩) hw45).trans y2) | (go_at_call 23; refine (eqPlanBook_any x ao0q cap0q ao1q cap1q ao2q cap2q ao0r cap0r ao1r cap1r ao2r cap2r _ (hS5d.p0.later hb6) (p0.mono fresh_old) (hS5d.p1.later hb6) (p1.mono fresh_old) (hS5d.p2.later hb6) (p2.mono fresh_old) hn).mono ?_; rintro e w7 ⟨rfl, hb7⟩))
  all_goals
    go_wp2
    go_ret
    exact ⟨rfl, ((hB5.trans (hbd.mono hB5.size)).trans (hb6.mono (by have := hB5.size; simpa using this))).trans (hb7.mono (by have h1 := hb6.size; have h2 := hB5.size; simp at h1; omega))⟩

set_option maxRecDepth 100000 in
theorem bookLaw (x : DPlanBook) (ao0 : Option Addr) (cap0 : Nat) (ao1 : Option Addr) (cap1 : Nat) (ao2 : Option Addr) (cap2 : Nat) (w : World) (h : BookAt w x ao0 cap0 ao1 cap1 ao2 cap2) :
    Calls Try.prog 6 #[.agg #[.slice ao0 x.1.1.length cap0, .slice ao1 x.1.2.length cap1, .slice ao2 x.2.length cap2]] w fun e w' => e = .returned (.bool true) ∧ Below w.heap.size w w' := by
  by_cases hn : wPlanBook x ≤ 1048576
  · exact bookLaw_small x ao0 cap0 ao1 cap1 ao2 cap2 w h hn
  · have hsz : szR 1048576 (wPlanBook x) = -1 := szR_no (by omega)
    have hb0 : Below w.heap.size w (w.alloc (.cells #[.slice ao0 x.1.1.length cap0, .slice ao1 x.1.2.length cap1, .slice ao2 x.2.length cap2] 46)) := (Below.refl _ _).alloc (Nat.le_refl _) _
    have hA := h.later hb0
    have HSZ := szPlanBook_any x ao0 cap0 ao1 cap1 ao2 cap2 1048576 _ (by omega) (by omega) hA.p0 hA.p1 hA.p2
    rw [hsz] at HSZ
    clear hsz
    go_enter Try.func6, Try.ntmps6
    go_wp2_with fail
    refine HSZ.mono ?_
    rintro e w1 ⟨rfl, hb1⟩
    clear HSZ
    go_wp2
    go_ret
    exact ⟨rfl, hb0.trans (hb1.mono hb0.size)⟩

end Go.Proofs.Ytohgkiljdehefaa
