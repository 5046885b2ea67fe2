/-
  For every book of plans, every name and every point's name, laws.FnExactPlanOver returns true, and all three read behind the call as they read before: impl.PlanOver answers as the specification's PlanOver does, the two ticks and whether there are any, and writes into no argument.
  No condition of ours: the statement as given (Rows.FnExactPlanOverSaid).
-/
import Derived.Test.YtgnjkpmbppmoeaaGreatKPoI0
import Derived.Test.YtgnjkpmbppmoeaaGreatKPoS0
import Derived.Test.YtgnjkpmbppmoeaaGreatKDfL
import Derived.Deep.RegionWith
import Derived.ProofKit
import Derived.OpenShut
import Derived.ChangeOld
import Derived.Lib.LaidTab
import Derived.ChangeBears2
namespace Go.Proofs.YtgnjkpmbppmoeaaGreat
namespace ExOver
open Go.RowKit
set_option linter.unusedSimpArgs false
set_option linter.unusedVariables false

set_option maxRecDepth 100000 in
set_option maxHeartbeats 16000000 in
theorem small (x0 : DPlanBook) (ao0_0 : Option Addr) (cap0_0 : Nat) (ao1_0 : Option Addr) (cap1_0 : Nat) (ao2_0 : Option Addr) (cap2_0 : Nat) (s1 : ByteArray) (s2 : ByteArray) (w : World) (p0_0 : SliceAt vPlanKind (old w) w ao0_0 cap0_0 x0.1.1) (p1_0 : SliceAt vPlanPoint (old w) w ao1_0 cap1_0 x0.1.2) (p2_0 : SliceAt vPlanEntry (old w) w ao2_0 cap2_0 x0.2) (hs1 : s1.size ≤ maxLen) (hs2 : s2.size ≤ maxLen) (hq1 : s1.size ≤ 1048576) (hq2 : s2.size ≤ 1048576) (hn : wPlanBook x0 ≤ 1048576) :
    Calls Tryz.prog 5 #[.agg #[.slice ao0_0 x0.1.1.length cap0_0, .slice ao1_0 x0.1.2.length cap1_0, .slice ao2_0 x0.2.length cap2_0], .string s1, .string s2] w fun e w' => e = .returned (.bool true) ∧ Below w.heap.size w w' := by
  have hn0 : wPlanBook x0 ≤ 1048576 := by omega
  have hq1I : ¬ (1048576 : Int) < (s1.size : Int) := by omega
  have hq2I : ¬ (1048576 : Int) < (s2.size : Int) := by omega
  have hsz0 : szR (1048576) (wPlanBook x0) = 1048576 - (wPlanBook x0 : Int) := szR_yes (by omega)
  have hnn0 : decide ((1048576 - (wPlanBook x0 : Int)) < 0) = false := by simp; omega
  have HSW := fun ao0_0' cap0_0' ao1_0' cap1_0' ao2_0' cap2_0' W (u0_0 : SliceAt vPlanKind (old W) W ao0_0' cap0_0' x0.1.1) (u1_0 : SliceAt vPlanPoint (old W) W ao1_0' cap1_0' x0.1.2) (u2_0 : SliceAt vPlanEntry (old W) W ao2_0' cap2_0' x0.2) => Pth.sOver x0 s1 s2 ao0_0' cap0_0' ao1_0' cap1_0' ao2_0' cap2_0' W u0_0 u1_0 u2_0 (by unfold wPlanBook at hn0; omega)
  have HIW := fun ao0_0' cap0_0' ao1_0' cap1_0' ao2_0' cap2_0' W (u0_0 : SliceAt vPlanKind (old W) W ao0_0' cap0_0' x0.1.1) (u1_0 : SliceAt vPlanPoint (old W) W ao1_0' cap1_0' x0.1.2) (u2_0 : SliceAt vPlanEntry (old W) W ao2_0' cap2_0' x0.2) => Pth.iOver x0 s1 s2 ao0_0' cap0_0' ao1_0' cap1_0' ao2_0' cap2_0' W u0_0 u1_0 u2_0 (by unfold wPlanBook at hn0; omega)
  obtain ⟨R0, hRe0⟩ : ∃ R, R = ((Pth.overF x0 s1 s2).1) := ⟨_, rfl⟩
  simp only [← hRe0] at HSW HIW
  clear hRe0
  have hbn0 : (R0 != R0) = false := by simp
  obtain ⟨R1, hRe1⟩ : ∃ R, R = ((Pth.overF x0 s1 s2).2.1) := ⟨_, rfl⟩
  simp only [← hRe1] at HSW HIW
  clear hRe1
  have hbn1 : (R1 != R1) = false := by simp
  obtain ⟨R2, hRe2⟩ : ∃ R, R = ((Pth.overF x0 s1 s2).2.2) := ⟨_, rfl⟩
  simp only [← hRe2] at HSW HIW
  clear hRe2
  have hbn2 : (R2 != R2) = false := by simp
  obtain ⟨w0, hw0⟩ : ∃ w0, w0 = (w.alloc (.cells #[.slice ao0_0 x0.1.1.length cap0_0, .slice ao1_0 x0.1.2.length cap1_0, .slice ao2_0 x0.2.length cap2_0] 28)) := ⟨_, rfl⟩
  have hz_0 : w0.heap.size = w.heap.size + 1 := by rw [hw0]; simp
  have B_0 : Below w.heap.size w w0 := by rw [hw0]; exact (Below.refl w.heap.size w).alloc (by simp) _
  have S0_0 : BxC (w.heap.size) #[.slice ao0_0 x0.1.1.length cap0_0, .slice ao1_0 x0.1.2.length cap1_0, .slice ao2_0 x0.2.length cap2_0] w0 := by rw [hw0]; exact BxC.new w _ _
  have HT := szPlanBook_any x0 ao0_0 cap0_0 ao1_0 cap1_0 ao2_0 cap2_0 1048576 w0 (by omega) (by omega) (p0_0.later B_0) (p1_0.later B_0) (p2_0.later B_0)
  rw [hsz0] at HT
  rw [hw0] at HT
  go_enter Tryz.func5, Tryz.ntmps5
  go_wp2_with fail
  refine HT.mono ?_
  rw [← hw0]
  rintro e w1 ⟨rfl, hb⟩
  clear HT hw0
  clear hsz0 
  have hz_1 : w0.heap.size ≤ w1.heap.size := hb.size
  have B_1 := B_0.trans (hb.mono (by omega))
  have S0_1 := S0_0.below hb (by omega)
  clear B_0 S0_0 hb
  obtain ⟨L0, hL0⟩ : ∃ L : Int, 1048576 - (wPlanBook x0 : Int) = L := ⟨_, rfl⟩
  simp only [hL0] at hnn0 ⊢
  clear hL0
  have c_S0_0 := S0_1 0
  have c_S0_1 := S0_1 1
  have c_S0_2 := S0_1 2
  simp at c_S0_0 c_S0_1 c_S0_2
  have HT := toPlanBook_any x0 ao0_0 cap0_0 ao1_0 cap1_0 ao2_0 cap2_0 w1 (p0_0.later B_1) (p1_0.later B_1) (p2_0.later B_1) hn0
  go_wp2_with fail
  refine HT.mono ?_
  rintro e w2 ⟨ao0_0p, cap0_0p, ao1_0p, cap1_0p, ao2_0p, cap2_0p, rfl, v0, v1, v2, hb⟩
  clear HT
  clear c_S0_0 c_S0_1 c_S0_2
  have hz_2 : w1.heap.size ≤ w2.heap.size := hb.size
  have B_2 := B_1.trans (hb.mono (by omega))
  have S0_2 := S0_1.below hb (by omega)
  clear B_1 S0_1 hb
  have v0_0_2 := v0.mono fresh_old
  clear v0
  have v1_0_2 := v1.mono fresh_old
  clear v1
  have v2_0_2 := v2.mono fresh_old
  clear v2
  have HT := HSW ao0_0p cap0_0p ao1_0p cap1_0p ao2_0p cap2_0p w2 v0_0_2 v1_0_2 v2_0_2
  go_wp2_with fail
  refine HT.mono ?_
  rintro e w3 ⟨rfl, hb⟩
  clear HT
  clear v0_0_2 v1_0_2 v2_0_2
  have hz_3 : w2.heap.size ≤ w3.heap.size := hb.size
  have B_3 := B_2.trans (hb.mono (by omega))
  have S0_3 := S0_2.below hb (by omega)
  clear B_2 S0_2 hb
  clear HSW
  have c_S0_0 := S0_3 0
  have c_S0_1 := S0_3 1
  have c_S0_2 := S0_3 2
  simp at c_S0_0 c_S0_1 c_S0_2
  have HT := toPlanBook_any x0 ao0_0 cap0_0 ao1_0 cap1_0 ao2_0 cap2_0 w3 (p0_0.later B_3) (p1_0.later B_3) (p2_0.later B_3) hn0
  go_wp2_with fail
  refine HT.mono ?_
  rintro e w4 ⟨ao0_0q, cap0_0q, ao1_0q, cap1_0q, ao2_0q, cap2_0q, rfl, v0, v1, v2, hb⟩
  clear HT
  clear c_S0_0 c_S0_1 c_S0_2
  have hz_4 : w3.heap.size ≤ w4.heap.size := hb.size
  have B_4 := B_3.trans (hb.mono (by omega))
  have S0_4 := S0_3.below hb (by omega)
  clear B_3 S0_3 hb
  have x0_0_4 := v0.mono fresh_old
  clear v0
  have x1_0_4 := v1.mono fresh_old
  clear v1
  have x2_0_4 := v2.mono fresh_old
  clear v2
  have pc_S0_0 := S0_4 0
  have pc_S0_1 := S0_4 1
  have pc_S0_2 := S0_4 2
  simp at pc_S0_0 pc_S0_1 pc_S0_2
  have py_S0 : w.heap.size < w4.heap.size := by omega
  obtain ⟨w5, hwb0⟩ : ∃ W', W' = w4.alloc (.cells #[.slice ao0_0q x0.1.1.length cap0_0q, .slice ao1_0q x0.1.2.length cap1_0q, .slice ao2_0q x0.2.length cap2_0q] 43) := ⟨_, rfl⟩
  have hb : Below w4.heap.size w4 w5 := by rw [hwb0]; exact (Below.refl _ _).alloc (Nat.le_refl _) _
  have hbx : BxC (w4.heap.size) #[.slice ao0_0q x0.1.1.length cap0_0q, .slice ao1_0q x0.1.2.length cap1_0q, .slice ao2_0q x0.2.length cap2_0q] w5 := by rw [hwb0]; exact BxC.new _ _ _
  have hzl_X0 : w4.heap.size < w5.heap.size := by rw [hwb0]; simp
  have hz_5 : w4.heap.size ≤ w5.heap.size := hb.size
  have B_5 := B_4.trans (hb.mono (by omega))
  have S0_5 := S0_4.below hb (by omega)
  have x0_0_5 := x0_0_4.later hb
  have x1_0_5 := x1_0_4.later hb
  have x2_0_5 := x2_0_4.later hb
  clear B_4 S0_4 x0_0_4 x1_0_4 x2_0_4 hb
  have X0_5 := hbx
  clear hbx
  have HT := HIW ao0_0q cap0_0q ao1_0q cap1_0q ao2_0q cap2_0q w5 x0_0_5 x1_0_5 x2_0_5
  rw [hwb0] at HT
  go_wp2_with fail
  refine HT.mono ?_
  rw [← hwb0]
  rintro e w6 ⟨rfl, hb⟩
  clear HT hwb0 pc_S0_0 pc_S0_1 pc_S0_2 py_S0
  have hz_6 : w5.heap.size ≤ w6.heap.size := hb.size
  have B_6 := B_5.trans (hb.mono (by omega))
  have S0_6 := S0_5.below hb (by omega)
  have x0_0_6 := x0_0_5.later hb
  have x1_0_6 := x1_0_5.later hb
  have x2_0_6 := x2_0_5.later hb
  have X0_6 := X0_5.below hb (by omega)
  clear B_5 S0_5 x0_0_5 x1_0_5 x2_0_5 X0_5 hb
  clear HIW
  have c_S0_0 := S0_6 0
  have c_S0_1 := S0_6 1
  have c_S0_2 := S0_6 2
  simp at c_S0_0 c_S0_1 c_S0_2
  have c_X0_0 := X0_6 0
  have c_X0_1 := X0_6 1
  have c_X0_2 := X0_6 2
  simp at c_X0_0 c_X0_1 c_X0_2
  have hbd : Below w6.heap.size w6 w6.drew := (Below.refl _ _).drew
  have d0_0 := x0_0_6.later hbd
  have d1_0 := x1_0_6.later hbd
  have d2_0 := x2_0_6.later hbd
  have HT := toPlanBook_any x0 ao0_0 cap0_0 ao1_0 cap1_0 ao2_0 cap2_0 w6.drew (p0_0.later (B_6.trans (hbd.mono (by omega)))) (p1_0.later (B_6.trans (hbd.mono (by omega)))) (p2_0.later (B_6.trans (hbd.mono (by omega)))) hn0
  have hxd : w4.heap.size < w6.drew.heap.size := by show _ < w6.heap.size; omega
  go_wp2_with fail
  go_region_with (first | (go_at_call 8; refine HT.mono ?_; rintro e w7 ⟨ao0_0r, cap0_0r, ao1_0r, cap1_0r, ao2_0r, cap2_0r, rfl, v0, v1, v2, hb1⟩; have k0 := (hb1.cell (p := ⟨w4.heap.size, 0, none⟩) hxd).trans c_X0_0; have k1 := (hb1.cell (p := ⟨w4.heap.size, 1, none⟩) hxd).trans c_X0_1; have k2 := (hb1.cell (p := ⟨w4.heap.size, 2, none⟩) hxd).trans c_X0_2) | (go_at_call 11; refine (eqPlanBook_any x0 ao0_0q cap0_0q ao1_0q cap1_0q ao2_0q cap2_0q ao0_0r cap0_0r ao1_0r cap1_0r ao2_0r cap2_0r _ (d0_0.later hb1) (v0.mono fresh_old) (d1_0.later hb1) (v1.mono fresh_old) (d2_0.later hb1) (v2.mono fresh_old) hn0).mono ?_; rintro e w8 ⟨rfl, hb2⟩))
  all_goals
    have hb : Below w6.heap.size w6 w8 := (hbd.trans hb1).trans (hb2.mono (show w6.drew.heap.size ≤ w7.heap.size from hb1.size))
    clear HT hbd hb1 hb2 hxd d0_0 v0 d1_0 v1 d2_0 v2 k0 k1 k2 c_S0_0 c_S0_1 c_S0_2 c_X0_0 c_X0_1 c_X0_2
    clear x0_0_6 x1_0_6 x2_0_6
    clear X0_6
    have hz_7 : w6.heap.size ≤ w8.heap.size := hb.size
    have B_7 := B_6.trans (hb.mono (by omega))
    have S0_7 := S0_6.below hb (by omega)
    clear B_6 S0_6 hb
    go_wp2
    go_ret
    exact ⟨rfl, B_7⟩

set_option maxRecDepth 100000 in
set_option maxHeartbeats 2000000 in
theorem great0 (x0 : DPlanBook) (ao0_0 : Option Addr) (cap0_0 : Nat) (ao1_0 : Option Addr) (cap1_0 : Nat) (ao2_0 : Option Addr) (cap2_0 : Nat) (s1 : ByteArray) (s2 : ByteArray) (w : World) (p0_0 : SliceAt vPlanKind (old w) w ao0_0 cap0_0 x0.1.1) (p1_0 : SliceAt vPlanPoint (old w) w ao1_0 cap1_0 x0.1.2) (p2_0 : SliceAt vPlanEntry (old w) w ao2_0 cap2_0 x0.2) (hs1 : s1.size ≤ maxLen) (hs2 : s2.size ≤ maxLen) (hx : ¬ s1.size ≤ 1048576) :
    Calls Tryz.prog 5 #[.agg #[.slice ao0_0 x0.1.1.length cap0_0, .slice ao1_0 x0.1.2.length cap1_0, .slice ao2_0 x0.2.length cap2_0], .string s1, .string s2] w fun e w' => e = .returned (.bool true) ∧ Below w.heap.size w w' := by
  have hxI : (1048576 : Int) < (s1.size : Int) := by omega
  have B0 : Below w.heap.size w (w.alloc (.cells #[.slice ao0_0 x0.1.1.length cap0_0, .slice ao1_0 x0.1.2.length cap1_0, .slice ao2_0 x0.2.length cap2_0] 28)) := (Below.refl w.heap.size w).alloc (by simp) _
  go_enter Tryz.func5, Tryz.ntmps5
  go_wp2
  go_ret
  exact ⟨rfl, B0⟩

set_option maxRecDepth 100000 in
set_option maxHeartbeats 2000000 in
theorem great1 (x0 : DPlanBook) (ao0_0 : Option Addr) (cap0_0 : Nat) (ao1_0 : Option Addr) (cap1_0 : Nat) (ao2_0 : Option Addr) (cap2_0 : Nat) (s1 : ByteArray) (s2 : ByteArray) (w : World) (p0_0 : SliceAt vPlanKind (old w) w ao0_0 cap0_0 x0.1.1) (p1_0 : SliceAt vPlanPoint (old w) w ao1_0 cap1_0 x0.1.2) (p2_0 : SliceAt vPlanEntry (old w) w ao2_0 cap2_0 x0.2) (hs1 : s1.size ≤ maxLen) (hs2 : s2.size ≤ maxLen) (hq1 : s1.size ≤ 1048576) (hx : ¬ s2.size ≤ 1048576) :
    Calls Tryz.prog 5 #[.agg #[.slice ao0_0 x0.1.1.length cap0_0, .slice ao1_0 x0.1.2.length cap1_0, .slice ao2_0 x0.2.length cap2_0], .string s1, .string s2] w fun e w' => e = .returned (.bool true) ∧ Below w.heap.size w w' := by
  have hq1I : ¬ (1048576 : Int) < (s1.size : Int) := by omega
  have hxI : (1048576 : Int) < (s2.size : Int) := by omega
  have B0 : Below w.heap.size w (w.alloc (.cells #[.slice ao0_0 x0.1.1.length cap0_0, .slice ao1_0 x0.1.2.length cap1_0, .slice ao2_0 x0.2.length cap2_0] 28)) := (Below.refl w.heap.size w).alloc (by simp) _
  go_enter Tryz.func5, Tryz.ntmps5
  go_wp2
  go_ret
  exact ⟨rfl, B0⟩

set_option maxRecDepth 100000 in
set_option maxHeartbeats 2000000 in
theorem great2 (x0 : DPlanBook) (ao0_0 : Option Addr) (cap0_0 : Nat) (ao1_0 : Option Addr) (cap1_0 : Nat) (ao2_0 : Option Addr) (cap2_0 : Nat) (s1 : ByteArray) (s2 : ByteArray) (w : World) (p0_0 : SliceAt vPlanKind (old w) w ao0_0 cap0_0 x0.1.1) (p1_0 : SliceAt vPlanPoint (old w) w ao1_0 cap1_0 x0.1.2) (p2_0 : SliceAt vPlanEntry (old w) w ao2_0 cap2_0 x0.2) (hs1 : s1.size ≤ maxLen) (hs2 : s2.size ≤ maxLen) (hq1 : s1.size ≤ 1048576) (hq2 : s2.size ≤ 1048576) (hx : ¬ wPlanBook x0 ≤ 1048576) :
    Calls Tryz.prog 5 #[.agg #[.slice ao0_0 x0.1.1.length cap0_0, .slice ao1_0 x0.1.2.length cap1_0, .slice ao2_0 x0.2.length cap2_0], .string s1, .string s2] w fun e w' => e = .returned (.bool true) ∧ Below w.heap.size w w' := by
  have hq1I : ¬ (1048576 : Int) < (s1.size : Int) := by omega
  have hq2I : ¬ (1048576 : Int) < (s2.size : Int) := by omega
  have B0 : Below w.heap.size w (w.alloc (.cells #[.slice ao0_0 x0.1.1.length cap0_0, .slice ao1_0 x0.1.2.length cap1_0, .slice ao2_0 x0.2.length cap2_0] 28)) := (Below.refl w.heap.size w).alloc (by simp) _
  have hs : szR (1048576) (wPlanBook x0) = -1 := szR_no (by omega)
  have HT := szPlanBook_any x0 ao0_0 cap0_0 ao1_0 cap1_0 ao2_0 cap2_0 1048576 _ (by omega) (by omega) (p0_0.later B0) (p1_0.later B0) (p2_0.later B0)
  rw [hs] at HT
  have S0_0 : BxC (w.heap.size) #[.slice ao0_0 x0.1.1.length cap0_0, .slice ao1_0 x0.1.2.length cap1_0, .slice ao2_0 x0.2.length cap2_0] (w.alloc (.cells #[.slice ao0_0 x0.1.1.length cap0_0, .slice ao1_0 x0.1.2.length cap1_0, .slice ao2_0 x0.2.length cap2_0] 28)) := by have h := (BxC.new w #[.slice ao0_0 x0.1.1.length cap0_0, .slice ao1_0 x0.1.2.length cap1_0, .slice ao2_0 x0.2.length cap2_0] 28); simpa using h
  have z0 : w.heap.size + 1 ≤ ((w.alloc (.cells #[.slice ao0_0 x0.1.1.length cap0_0, .slice ao1_0 x0.1.2.length cap1_0, .slice ao2_0 x0.2.length cap2_0] 28))).heap.size := by simp
  go_enter Tryz.func5, Tryz.ntmps5
  go_wp2_with fail
  refine HT.mono ?_
  rintro e w1 ⟨rfl, hb⟩
  have B1 := B0.trans (hb.mono B0.size)
  have S0_1 := S0_0.below hb (by omega)
  have z1 := Nat.le_trans z0 hb.size
  clear HT hs hb z0 B0 S0_0
  go_wp2
  go_ret
  exact ⟨rfl, B1⟩

theorem walked (x0 : DPlanBook) (ao0_0 : Option Addr) (cap0_0 : Nat) (ao1_0 : Option Addr) (cap1_0 : Nat) (ao2_0 : Option Addr) (cap2_0 : Nat) (s1 : ByteArray) (s2 : ByteArray) (w : World) (p0_0 : SliceAt vPlanKind (old w) w ao0_0 cap0_0 x0.1.1) (p1_0 : SliceAt vPlanPoint (old w) w ao1_0 cap1_0 x0.1.2) (p2_0 : SliceAt vPlanEntry (old w) w ao2_0 cap2_0 x0.2) (hs1 : s1.size ≤ maxLen) (hs2 : s2.size ≤ maxLen) :
    Calls Tryz.prog 5 #[.agg #[.slice ao0_0 x0.1.1.length cap0_0, .slice ao1_0 x0.1.2.length cap1_0, .slice ao2_0 x0.2.length cap2_0], .string s1, .string s2] w fun e w' => e = .returned (.bool true) ∧ Below w.heap.size w w' := by
  rcases (Decidable.em (s1.size ≤ 1048576)).symm with hx | hq1
  · exact great0 x0 ao0_0 cap0_0 ao1_0 cap1_0 ao2_0 cap2_0 s1 s2 w p0_0 p1_0 p2_0 hs1 hs2 hx
  rcases (Decidable.em (s2.size ≤ 1048576)).symm with hx | hq2
  · exact great1 x0 ao0_0 cap0_0 ao1_0 cap1_0 ao2_0 cap2_0 s1 s2 w p0_0 p1_0 p2_0 hs1 hs2 hq1 hx
  rcases (Decidable.em (wPlanBook x0 ≤ 1048576)).symm with hx | hn2
  · exact great2 x0 ao0_0 cap0_0 ao1_0 cap1_0 ao2_0 cap2_0 s1 s2 w p0_0 p1_0 p2_0 hs1 hs2 hq1 hq2 hx
  · exact small x0 ao0_0 cap0_0 ao1_0 cap1_0 ao2_0 cap2_0 s1 s2 w p0_0 p1_0 p2_0 hs1 hs2 hq1 hq2 hn2

theorem opPlanKind : Opens Tryz.prog 143 vPlanKind :=
  opens_struct Tryz.underlying143 (by kernel_rfl) (opensFs_cons rfl (by kernel_rfl) (opens_str Tryz.underlying9) (opensFs_cons rfl (by kernel_rfl) (opens_int Tryz.underlying3) (opensFs_one rfl (by kernel_rfl) (opens_int Tryz.underlying3))))
theorem opPlanPoint : Opens Tryz.prog 145 vPlanPoint :=
  opens_struct Tryz.underlying145 (by kernel_rfl) (opensFs_cons rfl (by kernel_rfl) (opens_str Tryz.underlying9) (opensFs_cons rfl (by kernel_rfl) (opens_int Tryz.underlying3) (opensFs_one rfl (by kernel_rfl) (opens_int Tryz.underlying3))))
theorem opPlanBase : Opens Tryz.prog 25 vPlanBase :=
  opens_struct Tryz.underlying25 (by kernel_rfl) (opensFs_cons rfl (by kernel_rfl) (opens_slice Tryz.underlying22 (by kernel_rfl) (by decide) opPlanKind) (opensFs_one rfl (by kernel_rfl) (opens_slice Tryz.underlying23 (by kernel_rfl) (by decide) opPlanPoint)))
theorem opPlanField : Opens Tryz.prog 179 vPlanField :=
  opens_struct Tryz.underlying179 (by kernel_rfl) (opensFs_cons rfl (by kernel_rfl) (opens_int Tryz.underlying3) (opensFs_cons rfl (by kernel_rfl) (opens_int Tryz.underlying3) (opensFs_one rfl (by kernel_rfl) (opens_str Tryz.underlying9))))
theorem opPlanEntry : Opens Tryz.prog 105 vPlanEntry :=
  opens_struct Tryz.underlying105 (by kernel_rfl) (opensFs_cons rfl (by kernel_rfl) (opens_str Tryz.underlying9) (opensFs_one rfl (by kernel_rfl) (opens_slice Tryz.underlying103 (by kernel_rfl) (by decide) opPlanField)))
theorem opPlanBook : Opens Tryz.prog 28 vPlanBook :=
  opens_struct Tryz.underlying28 (by kernel_rfl) (opensFs_cons rfl (by kernel_rfl) opPlanBase (opensFs_one rfl (by kernel_rfl) (opens_slice Tryz.underlying26 (by kernel_rfl) (by decide) opPlanEntry)))

open Go.ChangeShapes Go.WideShapes Go.ChangeAt
theorem own : ownKnob Tryz.prog.godebug = none := by kernel_rfl
theorem laidOut : laidOutB Tryz.prog = true := by kernel_rfl

set_option maxRecDepth 100000 in
theorem lifted (os : Os) (started : os.Started) (H : Type) (enc : TypeId × Value → H) :
    ReturnsInHanded {} Tryz.checked os 5 .any (Rows.fnExactPlanOverSpec.pre6 enc Tryz.prog Tryz.f5 Rows.fnExactPlanOverRow.domain false) (Rows.fnExactPlanOverSpec.post enc Tryz.prog Tryz.f5 false true false false) := by
  refine returnsInHanded_of_change (C := Tryz.checked) own started (by kernel_rfl) Tryz.func5
    (ChangeSpec.witness6 (enc := enc) (C := Tryz.checked) false ⟨#[], #[.agg #[.slice none 0 0, .slice none 0 0, .slice none 0 0], .string ByteArray.empty, .string ByteArray.empty], []⟩ 8 (by kernel_rfl) (by kernel_rfl) (by kernel_rfl) (by kernel_rfl)) ?_
  intro W base args ds gs before hval0 hW hcnd _
  have hval : ∀ (j : Nat) t v, Tryz.f5.params[j]? = some t → args[j]? = some v → Value.okWide Tryz.prog W .any base t v := hval0
  have hW' := hW
  obtain ⟨p, q, hA0, hV, rfl, hfz, hnd⟩ := hW
  have hA : DataW.TrodAll enc Tryz.prog W 0 (fun _ => true) true Tryz.f5.params.toList args.toList ds p := hA0
  rw [Tryz.params5] at hA hval
  have hlt := hA.lt
  obtain ⟨v0, vs0, d0, ds0, pp0, qq0, hargs, rfl, rfl, h0, r0⟩ := trodAll_cons hA
  obtain ⟨v1, vs1, d1, ds1, pp1, qq1, rfl, rfl, rfl, h1, r1⟩ := trodAll_cons r0
  obtain ⟨v2, vs2, d2, ds2, pp2, qq2, rfl, rfl, rfl, h2, r2⟩ := trodAll_cons r1
  obtain ⟨rfl, rfl, rfl⟩ := trodAll_nil r2
  obtain rfl : args = #[v0, v1, v2] := by cases args; simp_all
  obtain ⟨rfl, rfl⟩ := trodVars_none hV
  obtain ⟨cs, rfl, hcs⟩ := okWide_struct Tryz.underlying28 (hval 0 28 v0 rfl rfl)
  obtain ⟨x0, ao0_0, cap0_0, ao1_0, cap1_0, ao2_0, cap2_0, hx0, p0_0, p1_0, p2_0⟩ : ∃ (x0 : DPlanBook) (ao0_0 : Option Addr) (cap0_0 : Nat) (ao1_0 : Option Addr) (cap1_0 : Nat) (ao2_0 : Option Addr) (cap2_0 : Nat) , cs = #[.slice ao0_0 x0.1.1.length cap0_0, .slice ao1_0 x0.1.2.length cap1_0, .slice ao2_0 x0.2.length cap2_0] ∧ SliceAt vPlanKind (old W) W ao0_0 cap0_0 x0.1.1 ∧ SliceAt vPlanPoint (old W) W ao1_0 cap1_0 x0.1.2 ∧ SliceAt vPlanEntry (old W) W ao2_0 cap2_0 x0.2 := by
    obtain ⟨fl, hy⟩ := h0
    obtain ⟨x, hx⟩ := opPlanBook _ _ _ _ _ _ _ _ _ hy
    obtain ⟨ao0, cap0, ao1, cap1, ao2, cap2, hc, u0, u1, u2⟩ := cells_PlanBook hx
    exact ⟨x, ao0, cap0, ao1, cap1, ao2, cap2, Array.ext' hc, u0, u1, u2⟩
  subst hx0
  obtain ⟨s1, rfl⟩ := okWide_string Tryz.underlying9 (hval 1 9 v1 rfl rfl)
  have hs1 : s1.size ≤ maxLen := by
    obtain ⟨fl, hy⟩ := h1
    obtain ⟨z, hz, hz2⟩ := opens_str Tryz.underlying9 _ _ _ _ _ _ _ _ _ hy
    have e : ([.string s1] : List Value) = [.string z] := hz
    simp at e
    rw [e]; exact hz2
  obtain ⟨s2, rfl⟩ := okWide_string Tryz.underlying9 (hval 2 9 v2 rfl rfl)
  have hs2 : s2.size ≤ maxLen := by
    obtain ⟨fl, hy⟩ := h2
    obtain ⟨z, hz, hz2⟩ := opens_str Tryz.underlying9 _ _ _ _ _ _ _ _ _ hy
    have e : ([.string s2] : List Value) = [.string z] := hz
    simp at e
    rw [e]; exact hz2
  clear hA0 hval0
  refine (walked x0 ao0_0 cap0_0 ao1_0 cap1_0 ao2_0 cap2_0 s1 s2 W p0_0 p1_0 p2_0 hs1 hs2).mono fun e W' ⟨he, bel⟩ => ?_
  subst he
  exact ⟨_, rfl, _, _, _, [], _, _, hW', trodAll_mk1 (shut_bool Tryz.underlying4 _), (trodAll_cons_mk (Below.trod laidOut (by kernel_rfl) (of_decide_eq_true (by kernel_rfl)) h0 bel (fun y hy => hlt y (by simp [hy]))) (trodAll_cons_mk (Below.trod laidOut (by kernel_rfl) (of_decide_eq_true (by kernel_rfl)) h1 bel (fun y hy => hlt y (by simp [hy]))) (trodAll_cons_mk (Below.trod laidOut (by kernel_rfl) (of_decide_eq_true (by kernel_rfl)) h2 bel (fun y hy => hlt y (by simp [hy]))) trodAll_mk0))), rfl, bel.frame _, fun h => by cases h⟩

theorem over : Rows.fnExactPlanOverRow.holds Tryz.pinned (OpenSpec.ofChange Rows.fnExactPlanOverSpec) :=
  OpenClaim.holds_of_wide 5 Tryz.f5 rfl rfl rfl rfl rfl rfl rfl ⟨rfl, rfl, rfl, rfl, rfl⟩ rfl rfl rfl rfl rfl (by kernel_rfl) Tryz.func5 (by kernel_rfl)
    (of_decide_eq_true (by kernel_rfl)) (by unfold Func.isWrapper; first | (rw [if_pos (by decide +kernel)]; kernel_rfl) | (rw [if_neg (by decide +kernel)]; exact ⟨rfl, rfl⟩))
    (fun os started H enc _ => lifted os started H enc)
end ExOver

theorem exactOver_proved : Rows.FnExactPlanOverSaid := ExOver.over
#print axioms exactOver_proved
end Go.Proofs.YtgnjkpmbppmoeaaGreat
