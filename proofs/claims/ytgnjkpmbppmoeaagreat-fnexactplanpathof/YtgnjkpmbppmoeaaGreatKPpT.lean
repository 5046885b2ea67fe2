/-
  For every book of plans and every name, laws.FnExactPlanPathOf returns true, and both read behind the call as they read before: impl.PlanPathOf answers as the specification's PlanPathOf does, the path step by step and the code, writes into no argument, keeps nothing of one, and its answer owns its memory.
  No condition of ours: the statement as given (Rows.FnExactPlanPathOfSaid).
-/
import Derived.Test.YtgnjkpmbppmoeaaGreatKPpS0
import Derived.Test.YtgnjkpmbppmoeaaGreatKDfL
import Derived.Test.YtgnjkpmbppmoeaaGreatKGRs
import Derived.Deep.RegionWith
import Derived.ProofKit
import Derived.OpenShut
import Derived.ChangeOld
import Derived.Lib.LaidTab
import Derived.ChangeBears2
namespace Go.Proofs.YtgnjkpmbppmoeaaGreat
namespace ExPath
open Go.RowKit
set_option linter.unusedSimpArgs false
set_option linter.unusedVariables false

set_option maxRecDepth 100000 in
set_option maxHeartbeats 16000000 in
theorem small (x0 : DPlanBook) (ao0_0 : Option Addr) (cap0_0 : Nat) (ao1_0 : Option Addr) (cap1_0 : Nat) (ao2_0 : Option Addr) (cap2_0 : Nat) (s1 : ByteArray) (w : World) (p0_0 : SliceAt vPlanKind (old w) w ao0_0 cap0_0 x0.1.1) (p1_0 : SliceAt vPlanPoint (old w) w ao1_0 cap1_0 x0.1.2) (p2_0 : SliceAt vPlanEntry (old w) w ao2_0 cap2_0 x0.2) (hs1 : s1.size ≤ maxLen) (hq1 : s1.size ≤ 1048576) (hn : wPlanBook x0 ≤ 1048576) :
    Calls Tryz.prog 4 #[.agg #[.slice ao0_0 x0.1.1.length cap0_0, .slice ao1_0 x0.1.2.length cap1_0, .slice ao2_0 x0.2.length cap2_0], .string s1] w fun e w' => e = .returned (.bool true) ∧ Below w.heap.size w w' := by
  have hn0 : wPlanBook x0 ≤ 1048576 := by omega
  have hq1I : ¬ (1048576 : Int) < (s1.size : Int) := by omega
  have hsz0 : szR (1048576) (wPlanBook x0) = 1048576 - (wPlanBook x0 : Int) := szR_yes (by omega)
  have hnn0 : decide ((1048576 - (wPlanBook x0 : Int)) < 0) = false := by simp; omega
  have HSW := fun ao0_0' cap0_0' ao1_0' cap1_0' ao2_0' cap2_0' W (u0_0 : SliceAt vPlanKind (old W) W ao0_0' cap0_0' x0.1.1) (u1_0 : SliceAt vPlanPoint (old W) W ao1_0' cap1_0' x0.1.2) (u2_0 : SliceAt vPlanEntry (old W) W ao2_0' cap2_0' x0.2) => Pth.sPathOf x0 s1 ao0_0' cap0_0' ao1_0' cap1_0' ao2_0' cap2_0' W u0_0 u1_0 u2_0 (by unfold wPlanBook at hn0; omega)
  have HIW := fun ao0_0' cap0_0' ao1_0' cap1_0' ao2_0' cap2_0' W (u0_0 : SliceAt vPlanKind (old W) W ao0_0' cap0_0' x0.1.1) (u1_0 : SliceAt vPlanPoint (old W) W ao1_0' cap1_0' x0.1.2) (u2_0 : SliceAt vPlanEntry (old W) W ao2_0' cap2_0' x0.2) => Pth.iPathOf x0 s1 ao0_0' cap0_0' ao1_0' cap1_0' ao2_0' cap2_0' W u0_0 u1_0 u2_0 (by unfold wPlanBook at hn0; omega)
  have hR0 : ((Pth.pathF x0 s1).1.1).length ≤ 1000000 := Nat.le_trans (Pth.pathF_len x0 s1) (by omega)
  obtain ⟨R0_1, hRe0⟩ : ∃ R, R = ((Pth.pathF x0 s1).1.2.1) := ⟨_, rfl⟩
  simp only [← hRe0] at HSW HIW
  clear hRe0
  obtain ⟨R0_2, hRe0⟩ : ∃ R, R = ((Pth.pathF x0 s1).1.2.2) := ⟨_, rfl⟩
  simp only [← hRe0] at HSW HIW
  clear hRe0
  obtain ⟨R0, hRe0⟩ : ∃ R, R = ((Pth.pathF x0 s1).1.1) := ⟨_, rfl⟩
  simp only [← hRe0] at HSW HIW hR0
  clear hRe0
  obtain ⟨R1, hRe1⟩ : ∃ R, R = ((Pth.pathF x0 s1).2) := ⟨_, rfl⟩
  simp only [← hRe1] at HSW HIW
  clear hRe1
  have hbn1 : (R1 != R1) = false := by simp
  obtain ⟨w0, hw0⟩ : ∃ w0, w0 = (w.alloc (.cells #[.slice ao0_0 x0.1.1.length cap0_0, .slice ao1_0 x0.1.2.length cap1_0, .slice ao2_0 x0.2.length cap2_0] 28)) := ⟨_, rfl⟩
  have hz_0 : w0.heap.size = w.heap.size + 1 := by rw [hw0]; simp
  have B_0 : Below w.heap.size w w0 := by rw [hw0]; exact (Below.refl w.heap.size w).alloc (by simp) _
  have S0_0 : BxC (w.heap.size) #[.slice ao0_0 x0.1.1.length cap0_0, .slice ao1_0 x0.1.2.length cap1_0, .slice ao2_0 x0.2.length cap2_0] w0 := by rw [hw0]; exact BxC.new w _ _
  have HT := szPlanBook_any x0 ao0_0 cap0_0 ao1_0 cap1_0 ao2_0 cap2_0 1048576 w0 (by omega) (by omega) (p0_0.later B_0) (p1_0.later B_0) (p2_0.later B_0)
  rw [hsz0] at HT
  rw [hw0] at HT
  go_enter Tryz.func4, Tryz.ntmps4
  go_wp2_with fail
  refine HT.mono ?_
  rw [← hw0]
  rintro e w1 ⟨rfl, hb⟩
  clear HT hw0
  clear hsz0 
  have hz_1 : w0.heap.size ≤ w1.heap.size := hb.size
  have B_1 := B_0.trans (hb.mono (by omega))
  have S0_1 := S0_0.below hb (by omega)
  clear B_0 S0_0 hb
  obtain ⟨L0, hL0⟩ : ∃ L : Int, 1048576 - (wPlanBook x0 : Int) = L := ⟨_, rfl⟩
  simp only [hL0] at hnn0 ⊢
  clear hL0
  have c_S0_0 := S0_1 0
  have c_S0_1 := S0_1 1
  have c_S0_2 := S0_1 2
  simp at c_S0_0 c_S0_1 c_S0_2
  have HT := toPlanBook_any x0 ao0_0 cap0_0 ao1_0 cap1_0 ao2_0 cap2_0 w1 (p0_0.later B_1) (p1_0.later B_1) (p2_0.later B_1) hn0
  go_wp2_with fail
  refine HT.mono ?_
  rintro e w2 ⟨ao0_0p, cap0_0p, ao1_0p, cap1_0p, ao2_0p, cap2_0p, rfl, v0, v1, v2, hb⟩
  clear HT
  clear c_S0_0 c_S0_1 c_S0_2
  have hz_2 : w1.heap.size ≤ w2.heap.size := hb.size
  have B_2 := B_1.trans (hb.mono (by omega))
  have S0_2 := S0_1.below hb (by omega)
  clear B_1 S0_1 hb
  have v0_0_2 := v0.mono fresh_old
  clear v0
  have v1_0_2 := v1.mono fresh_old
  clear v1
  have v2_0_2 := v2.mono fresh_old
  clear v2
  have HT := HSW ao0_0p cap0_0p ao1_0p cap1_0p ao2_0p cap2_0p w2 v0_0_2 v1_0_2 v2_0_2
  go_wp2_with fail
  refine HT.mono ?_
  rintro e w3 ⟨wao, wcap, rfl, hO, hb⟩
  clear HT
  clear v0_0_2 v1_0_2 v2_0_2
  have hz_3 : w2.heap.size ≤ w3.heap.size := hb.size
  have B_3 := B_2.trans (hb.mono (by omega))
  have S0_3 := S0_2.below hb (by omega)
  clear B_2 S0_2 hb
  have Wt_3 := atPlanStep_owns hO
  have hWin : R0 = [] ∨ ∀ g, wao = some ⟨g, 0, none⟩ → g < w3.heap.size := .inr fun g hg => (hO.lt g (by rw [hg]; rfl)).2
  clear hO
  have pc_S0_0 := S0_3 0
  have pc_S0_1 := S0_3 1
  have pc_S0_2 := S0_3 2
  simp at pc_S0_0 pc_S0_1 pc_S0_2
  have py_S0 : w.heap.size < w3.heap.size := by omega
  obtain ⟨w4, hwbW⟩ : ∃ W', W' = w3.alloc (.cells #[.slice wao R0.length wcap, .int .i64 R0_1, .int .i64 R0_2] 52) := ⟨_, rfl⟩
  have hb : Below w3.heap.size w3 w4 := by rw [hwbW]; exact (Below.refl _ _).alloc (Nat.le_refl _) _
  have hbx : BxC (w3.heap.size) #[.slice wao R0.length wcap, .int .i64 R0_1, .int .i64 R0_2] w4 := by rw [hwbW]; exact BxC.new _ _ _
  have hzl_WB : w3.heap.size < w4.heap.size := by rw [hwbW]; simp
  have hz_4 : w3.heap.size ≤ w4.heap.size := hb.size
  have B_4 := B_3.trans (hb.mono (by omega))
  have S0_4 := S0_3.below hb (by omega)
  have Wt_4 := Wt_3.later hb
  clear B_3 S0_3 Wt_3 hb
  have WB_4 := hbx
  clear hbx
  clear HSW
  have HT := toPlanBook_sh x0 ao0_0 cap0_0 ao1_0 cap1_0 ao2_0 cap2_0 w4 (p0_0.later B_4) (p1_0.later B_4) (p2_0.later B_4) hn0
  rw [hwbW] at HT
  go_wp2_with fail
  refine HT.mono ?_
  rw [← hwbW]
  rintro e w5 ⟨ao0_0q, cap0_0q, ao1_0q, cap1_0q, ao2_0q, cap2_0q, rfl, ⟨v0, s0⟩, ⟨v1, s1⟩, ⟨v2, s2⟩, hb⟩
  clear HT hwbW pc_S0_0 pc_S0_1 pc_S0_2 py_S0
  have hz_5 : w4.heap.size ≤ w5.heap.size := hb.size
  have B_5 := B_4.trans (hb.mono (by omega))
  have S0_5 := S0_4.below hb (by omega)
  have Wt_5 := Wt_4.later hb
  have WB_5 := WB_4.below hb (by omega)
  clear B_4 S0_4 Wt_4 WB_4 hb
  have x0_0_5 := v0.mono fresh_old
  clear v0
  have Hx0_0_5 := s0
  clear s0
  have x1_0_5 := v1.mono fresh_old
  clear v1
  have Hx1_0_5 := s1
  clear s1
  have x2_0_5 := v2.mono fresh_old
  clear v2
  have Hx2_0_5 := s2
  clear s2
  have pc_S0_0 := S0_5 0
  have pc_S0_1 := S0_5 1
  have pc_S0_2 := S0_5 2
  simp at pc_S0_0 pc_S0_1 pc_S0_2
  have py_S0 : w.heap.size < w5.heap.size := by omega
  have pc_WB_0 := WB_5 0
  have pc_WB_1 := WB_5 1
  have pc_WB_2 := WB_5 2
  simp at pc_WB_0 pc_WB_1 pc_WB_2
  have py_WB : w3.heap.size < w5.heap.size := by omega
  obtain ⟨w6, hwb0⟩ : ∃ W', W' = w5.alloc (.cells #[.slice ao0_0q x0.1.1.length cap0_0q, .slice ao1_0q x0.1.2.length cap1_0q, .slice ao2_0q x0.2.length cap2_0q] 43) := ⟨_, rfl⟩
  have hb : Below w5.heap.size w5 w6 := by rw [hwb0]; exact (Below.refl _ _).alloc (Nat.le_refl _) _
  have hbx : BxC (w5.heap.size) #[.slice ao0_0q x0.1.1.length cap0_0q, .slice ao1_0q x0.1.2.length cap1_0q, .slice ao2_0q x0.2.length cap2_0q] w6 := by rw [hwb0]; exact BxC.new _ _ _
  have hzl_X0 : w5.heap.size < w6.heap.size := by rw [hwb0]; simp
  have hz_6 : w5.heap.size ≤ w6.heap.size := hb.size
  have B_6 := B_5.trans (hb.mono (by omega))
  have S0_6 := S0_5.below hb (by omega)
  have Wt_6 := Wt_5.later hb
  have WB_6 := WB_5.below hb (by omega)
  have x0_0_6 := x0_0_5.later hb
  have Hx0_0_6 := Hx0_0_5.stays (w' := w6) (fun b hb' => hb.block b (by have := hb'.2; omega))
  have x1_0_6 := x1_0_5.later hb
  have Hx1_0_6 := Hx1_0_5.stays (w' := w6) (fun b hb' => hb.block b (by have := hb'.2; omega))
  have x2_0_6 := x2_0_5.later hb
  have Hx2_0_6 := Hx2_0_5.stays (w' := w6) (fun b hb' => hb.block b (by have := hb'.2; omega))
  clear B_5 S0_5 Wt_5 WB_5 x0_0_5 Hx0_0_5 x1_0_5 Hx1_0_5 x2_0_5 Hx2_0_5 hb
  have X0_6 := hbx
  clear hbx
  have HT := HIW ao0_0q cap0_0q ao1_0q cap1_0q ao2_0q cap2_0q w6 x0_0_6 x1_0_6 x2_0_6
  rw [hwb0] at HT
  go_wp2_with fail
  refine HT.mono ?_
  rw [← hwb0]
  rintro e w7 ⟨gao, gcap, rfl, hO, hb⟩
  clear HT hwb0 pc_S0_0 pc_S0_1 pc_S0_2 py_S0 pc_WB_0 pc_WB_1 pc_WB_2 py_WB
  have hz_7 : w6.heap.size ≤ w7.heap.size := hb.size
  have B_7 := B_6.trans (hb.mono (by omega))
  have S0_7 := S0_6.below hb (by omega)
  have Wt_7 := Wt_6.later hb
  have WB_7 := WB_6.below hb (by omega)
  have x0_0_7 := x0_0_6.later hb
  have Hx0_0_7 := Hx0_0_6.stays (w' := w7) (fun b hb' => hb.block b (by have := hb'.2; omega))
  have x1_0_7 := x1_0_6.later hb
  have Hx1_0_7 := Hx1_0_6.stays (w' := w7) (fun b hb' => hb.block b (by have := hb'.2; omega))
  have x2_0_7 := x2_0_6.later hb
  have Hx2_0_7 := Hx2_0_6.stays (w' := w7) (fun b hb' => hb.block b (by have := hb'.2; omega))
  have X0_7 := X0_6.below hb (by omega)
  clear B_6 S0_6 Wt_6 WB_6 x0_0_6 Hx0_0_6 x1_0_6 Hx1_0_6 x2_0_6 Hx2_0_6 X0_6 hb
  have Go_7 := hO
  have hGin : ∀ g, gao = some ⟨g, 0, none⟩ → g < w7.heap.size := fun g hg => (hO.lt g (by rw [hg]; rfl)).2
  clear hO
  have pc_S0_0 := S0_7 0
  have pc_S0_1 := S0_7 1
  have pc_S0_2 := S0_7 2
  simp at pc_S0_0 pc_S0_1 pc_S0_2
  have py_S0 : w.heap.size < w7.heap.size := by omega
  have pc_WB_0 := WB_7 0
  have pc_WB_1 := WB_7 1
  have pc_WB_2 := WB_7 2
  simp at pc_WB_0 pc_WB_1 pc_WB_2
  have py_WB : w3.heap.size < w7.heap.size := by omega
  have pc_X0_0 := X0_7 0
  have pc_X0_1 := X0_7 1
  have pc_X0_2 := X0_7 2
  simp at pc_X0_0 pc_X0_1 pc_X0_2
  have py_X0 : w5.heap.size < w7.heap.size := by omega
  obtain ⟨w8, hwbG⟩ : ∃ W', W' = w7.alloc (.cells #[.slice gao R0.length gcap, .int .i64 R0_1, .int .i64 R0_2] 52) := ⟨_, rfl⟩
  have hb : Below w7.heap.size w7 w8 := by rw [hwbG]; exact (Below.refl _ _).alloc (Nat.le_refl _) _
  have hbx : BxC (w7.heap.size) #[.slice gao R0.length gcap, .int .i64 R0_1, .int .i64 R0_2] w8 := by rw [hwbG]; exact BxC.new _ _ _
  have hzl_GB : w7.heap.size < w8.heap.size := by rw [hwbG]; simp
  have hz_8 : w7.heap.size ≤ w8.heap.size := hb.size
  have B_8 := B_7.trans (hb.mono (by omega))
  have S0_8 := S0_7.below hb (by omega)
  have Wt_8 := Wt_7.later hb
  have WB_8 := WB_7.below hb (by omega)
  have x0_0_8 := x0_0_7.later hb
  have Hx0_0_8 := Hx0_0_7.stays (w' := w8) (fun b hb' => hb.block b (by have := hb'.2; omega))
  have x1_0_8 := x1_0_7.later hb
  have Hx1_0_8 := Hx1_0_7.stays (w' := w8) (fun b hb' => hb.block b (by have := hb'.2; omega))
  have x2_0_8 := x2_0_7.later hb
  have Hx2_0_8 := Hx2_0_7.stays (w' := w8) (fun b hb' => hb.block b (by have := hb'.2; omega))
  have X0_8 := X0_7.below hb (by omega)
  have Go_8 := owns_below Go_7 hb
  clear B_7 S0_7 Wt_7 WB_7 x0_0_7 Hx0_0_7 x1_0_7 Hx1_0_7 x2_0_7 Hx2_0_7 X0_7 Go_7 hb
  have GB_8 := hbx
  clear hbx
  have hGt := atPlanStep_owns Go_8
  have HT := eqPlanPathF R0_1 R0_2 gao wao gcap wcap R0 w8 (by unfold maxLen; omega) hGt Wt_8
  rw [hwbG] at HT
  go_wp2_with fail
  refine HT.mono ?_
  rw [← hwbG]
  rintro e w9 ⟨rfl, hb⟩
  clear HT hwbG pc_S0_0 pc_S0_1 pc_S0_2 py_S0 pc_WB_0 pc_WB_1 pc_WB_2 py_WB pc_X0_0 pc_X0_1 pc_X0_2 py_X0
  have hz_9 : w8.heap.size ≤ w9.heap.size := hb.size
  have B_9 := B_8.trans (hb.mono (by omega))
  have S0_9 := S0_8.below hb (by omega)
  have Wt_9 := Wt_8.later hb
  have WB_9 := WB_8.below hb (by omega)
  have x0_0_9 := x0_0_8.later hb
  have Hx0_0_9 := Hx0_0_8.stays (w' := w9) (fun b hb' => hb.block b (by have := hb'.2; omega))
  have x1_0_9 := x1_0_8.later hb
  have Hx1_0_9 := Hx1_0_8.stays (w' := w9) (fun b hb' => hb.block b (by have := hb'.2; omega))
  have x2_0_9 := x2_0_8.later hb
  have Hx2_0_9 := Hx2_0_8.stays (w' := w9) (fun b hb' => hb.block b (by have := hb'.2; omega))
  have X0_9 := X0_8.below hb (by omega)
  have Go_9 := owns_below Go_8 hb
  have GB_9 := GB_8.below hb (by omega)
  clear B_8 S0_8 Wt_8 WB_8 x0_0_8 Hx0_0_8 x1_0_8 Hx1_0_8 x2_0_8 Hx2_0_8 X0_8 Go_8 GB_8 hb
  clear hGt
  have c_S0_0 := S0_9 0
  have c_S0_1 := S0_9 1
  have c_S0_2 := S0_9 2
  simp at c_S0_0 c_S0_1 c_S0_2
  have c_X0_0 := X0_9 0
  have c_X0_1 := X0_9 1
  have c_X0_2 := X0_9 2
  simp at c_X0_0 c_X0_1 c_X0_2
  have hbd : Below w9.heap.size w9 w9.drew := (Below.refl _ _).drew
  have d0_0 := x0_0_9.later hbd
  have d1_0 := x1_0_9.later hbd
  have d2_0 := x2_0_9.later hbd
  have HT := toPlanBook_any x0 ao0_0 cap0_0 ao1_0 cap1_0 ao2_0 cap2_0 w9.drew (p0_0.later (B_9.trans (hbd.mono (by omega)))) (p1_0.later (B_9.trans (hbd.mono (by omega)))) (p2_0.later (B_9.trans (hbd.mono (by omega)))) hn0
  have hxd : w5.heap.size < w9.drew.heap.size := by show _ < w9.heap.size; omega
  go_wp2_with fail
  go_region_with (first | (go_at_call 8; refine HT.mono ?_; rintro e w10 ⟨ao0_0r, cap0_0r, ao1_0r, cap1_0r, ao2_0r, cap2_0r, rfl, v0, v1, v2, hb1⟩; have k0 := (hb1.cell (p := ⟨w5.heap.size, 0, none⟩) hxd).trans c_X0_0; have k1 := (hb1.cell (p := ⟨w5.heap.size, 1, none⟩) hxd).trans c_X0_1; have k2 := (hb1.cell (p := ⟨w5.heap.size, 2, none⟩) hxd).trans c_X0_2) | (go_at_call 11; refine (eqPlanBook_any x0 ao0_0q cap0_0q ao1_0q cap1_0q ao2_0q cap2_0q ao0_0r cap0_0r ao1_0r cap1_0r ao2_0r cap2_0r _ (d0_0.later hb1) (v0.mono fresh_old) (d1_0.later hb1) (v1.mono fresh_old) (d2_0.later hb1) (v2.mono fresh_old) hn0).mono ?_; rintro e w11 ⟨rfl, hb2⟩))
  all_goals
    have hb : Below w9.heap.size w9 w11 := (hbd.trans hb1).trans (hb2.mono (show w9.drew.heap.size ≤ w10.heap.size from hb1.size))
    clear HT hbd hb1 hb2 hxd d0_0 v0 d1_0 v1 d2_0 v2 k0 k1 k2 c_S0_0 c_S0_1 c_S0_2 c_X0_0 c_X0_1 c_X0_2
    clear x0_0_9 x1_0_9 x2_0_9
    have hz_10 : w9.heap.size ≤ w11.heap.size := hb.size
    have B_10 := B_9.trans (hb.mono (by omega))
    have S0_10 := S0_9.below hb (by omega)
    have Wt_10 := Wt_9.later hb
    have WB_10 := WB_9.below hb (by omega)
    have Hx0_0_10 := Hx0_0_9.stays (w' := w11) (fun b hb' => hb.block b (by have := hb'.2; omega))
    have Hx1_0_10 := Hx1_0_9.stays (w' := w11) (fun b hb' => hb.block b (by have := hb'.2; omega))
    have Hx2_0_10 := Hx2_0_9.stays (w' := w11) (fun b hb' => hb.block b (by have := hb'.2; omega))
    have X0_10 := X0_9.below hb (by omega)
    have Go_10 := owns_below Go_9 hb
    have GB_10 := GB_9.below hb (by omega)
    clear B_9 S0_9 Wt_9 WB_9 Hx0_0_9 Hx1_0_9 Hx2_0_9 X0_9 Go_9 GB_9 hb
    have hk0 : (0 : Int) ≤ 1 := by omega
    have c_X0_0 := X0_10 0
    have c_X0_1 := X0_10 1
    have c_X0_2 := X0_10 2
    simp at c_X0_0 c_X0_1 c_X0_2
    have hle_0_0 := cnPlanKindS_le x0.1.1
    have hle_1_0 := cnPlanPointS_le x0.1.2
    have hle_2_0 := cnPlanEntryS_le x0.2
    have hcb0 : (cnPlanKindS x0.1.1) + (cnPlanPointS x0.1.2) + (cnPlanEntryS x0.2) ≤ 268435456 := by have := hn0; unfold wPlanBook at this; unfold wPlanBase at this; omega
    clear hle_0_0 hle_1_0 hle_2_0
    have HT := markPlanBook_any ao0_0q x0.1.1.length cap0_0q (cnPlanKindS x0.1.1) ao1_0q x0.1.2.length cap1_0q (cnPlanPointS x0.1.2) ao2_0q x0.2.length cap2_0q (cnPlanEntryS x0.2) 1 w4.heap.size w5.heap.size w11 Hx0_0_10 Hx1_0_10 Hx2_0_10 (by omega) (by omega) (by omega) (by omega)
    go_wp2_with fail
    refine HT.mono ?_
    rintro e w12 ⟨rfl, hS⟩
    clear HT
    clear c_X0_0 c_X0_1 c_X0_2
    clear Hx0_0_10 Hx1_0_10 Hx2_0_10 X0_10
    have hz_11 : w11.heap.size ≤ w12.heap.size := hS.below.size
    have B_11 := B_10.trans (hS.below.mono (by omega))
    have S0_11 := S0_10.below hS.below (by omega)
    have Wt_11 := (show _ from Wt_10) |> fun hold => (by
      rcases hWin with h0 | h0
      · exact .inl h0
      · exact hold.kept (fun g h1 h2 => hS.below.block g (by have := h0 g h1; omega)) hS.below.size : AtPlanStep w12 wao R0)
    have WB_11 := WB_10.below hS.below (by omega)
    have Go_11 := owns_kept Go_10 (w' := w12) (fun g h1 h2 => hS.above g (by omega) h2)
    have GB_11 : BxC (w7.heap.size) #[.slice gao R0.length gcap, .int .i64 R0_1, .int .i64 R0_2] w12 := fun i => (World.cell?_of_block (hS.above (w7.heap.size) (by omega) (by omega))).trans (GB_10 i)
    clear B_10 S0_10 Wt_10 WB_10 Go_10 GB_10 hS
    obtain ⟨kk0, hkk⟩ : ∃ kk : Int, 1 + (((cnPlanKindS x0.1.1) + (cnPlanPointS x0.1.2) + (cnPlanEntryS x0.2) : Nat) : Int) = kk := ⟨_, rfl⟩
    have hkb0 : 0 ≤ kk0 ∧ kk0 ≤ 268436456 := by omega
    rw [hkk]
    clear hkk hcb0
    have hkd : decide (kk0 < 0) = false := by simp; omega
    have hkn : ¬ kk0 < 0 := by omega
    have hGt := atPlanStep_owns Go_11
    have c_GB_0 := GB_11 0
    have c_GB_1 := GB_11 1
    have c_GB_2 := GB_11 2
    simp at c_GB_0 c_GB_1 c_GB_2
    have c_WB_0 := WB_11 0
    have c_WB_1 := WB_11 1
    have c_WB_2 := WB_11 2
    simp at c_WB_0 c_WB_1 c_WB_2
    have HT := eqPlanPathF R0_1 R0_2 gao wao gcap wcap R0 w12 (by unfold maxLen; omega) hGt Wt_11
    go_wp2_with fail
    refine HT.mono ?_
    rintro e w13 ⟨rfl, hb⟩
    clear HT
    clear c_GB_0 c_GB_1 c_GB_2 c_WB_0 c_WB_1 c_WB_2
    have hz_12 : w12.heap.size ≤ w13.heap.size := hb.size
    have B_12 := B_11.trans (hb.mono (by omega))
    have S0_12 := S0_11.below hb (by omega)
    have Wt_12 := Wt_11.later hb
    have WB_12 := WB_11.below hb (by omega)
    have Go_12 := owns_below Go_11 hb
    have GB_12 := GB_11.below hb (by omega)
    clear B_11 S0_11 Wt_11 WB_11 Go_11 GB_11 hb
    clear hGt
    have c_GB_0 := GB_12 0
    have c_GB_1 := GB_12 1
    have c_GB_2 := GB_12 2
    simp at c_GB_0 c_GB_1 c_GB_2
    have HT := markPlanPathF R0_1 R0_2 gao gcap w6.heap.size 1 R0 w13 (by omega) (by omega) (by omega) Go_12
    go_wp2_with fail
    refine HT.mono ?_
    rintro e w14 ⟨rfl, hb, hA⟩
    clear HT
    clear c_GB_0 c_GB_1 c_GB_2
    clear Go_12
    have hz_13 : w13.heap.size ≤ w14.heap.size := hb.1.size
    have B_13 := B_12.trans (hb.1.mono (by omega))
    have S0_13 := S0_12.below hb.1 (by omega)
    have Wt_13 := (show _ from Wt_12) |> fun hold => (by
      rcases hWin with h0 | h0
      · exact .inl h0
      · exact hold.kept (fun g h1 h2 => hb.1.block g (by have := h0 g h1; omega)) hb.1.size : AtPlanStep w14 wao R0)
    have WB_13 := WB_12.below hb.1 (by omega)
    have GB_13 : BxC (w7.heap.size) #[.slice gao R0.length gcap, .int .i64 R0_1, .int .i64 R0_2] w14 := fun i => (World.cell?_of_block (hb.2 (w7.heap.size) (by omega) (fun e => by have := hGin _ e; omega))).trans (GB_12 i)
    clear B_12 S0_12 Wt_12 WB_12 GB_12 hb
    have Gt_13 := hA
    clear hA
    obtain ⟨LL, hLL⟩ : ∃ LL : Int, ((1 + 6 * R0.length : Nat) : Int) = LL := ⟨_, rfl⟩
    have hLb : 0 ≤ LL := by omega
    have hll : ¬ (LL < 0) := by omega
    have hld : decide (LL < 0) = false := by simp; omega
    have hlq : (LL != LL) = false := by simp
    rw [hLL]
    have c_GB_0 := GB_13 0
    have c_GB_1 := GB_13 1
    have c_GB_2 := GB_13 2
    simp at c_GB_0 c_GB_1 c_GB_2
    have HH := heldPlanPathF R0_1 R0_2 gao gcap 1 R0.length w14 (by omega) (by omega) Gt_13
    rw [hLL] at HH
    have HT := HH
    go_wp2_with fail
    refine HT.mono ?_
    rintro e w15 ⟨rfl, hb⟩
    clear HT
    clear HH c_GB_0 c_GB_1 c_GB_2
    have hz_14 : w14.heap.size ≤ w15.heap.size := hb.size
    have B_14 := B_13.trans (hb.mono (by omega))
    have S0_14 := S0_13.below hb (by omega)
    have Wt_14 := Wt_13.later hb
    have WB_14 := WB_13.below hb (by omega)
    have GB_14 := GB_13.below hb (by omega)
    have Gt_14 := Gt_13.later hb
    clear B_13 S0_13 Wt_13 WB_13 GB_13 Gt_13 hb
    have c_S0_0 := S0_14 0
    have c_S0_1 := S0_14 1
    have c_S0_2 := S0_14 2
    simp at c_S0_0 c_S0_1 c_S0_2
    have HT := toPlanBook_any x0 ao0_0 cap0_0 ao1_0 cap1_0 ao2_0 cap2_0 w15 (p0_0.later B_14) (p1_0.later B_14) (p2_0.later B_14) hn0
    go_wp2_with fail
    refine HT.mono ?_
    rintro e w16 ⟨ao0_0s, cap0_0s, ao1_0s, cap1_0s, ao2_0s, cap2_0s, rfl, v0, v1, v2, hb⟩
    clear HT
    clear c_S0_0 c_S0_1 c_S0_2
    have hz_15 : w15.heap.size ≤ w16.heap.size := hb.size
    have B_15 := B_14.trans (hb.mono (by omega))
    have S0_15 := S0_14.below hb (by omega)
    have Wt_15 := Wt_14.later hb
    have WB_15 := WB_14.below hb (by omega)
    have GB_15 := GB_14.below hb (by omega)
    have Gt_15 := Gt_14.later hb
    clear B_14 S0_14 Wt_14 WB_14 GB_14 Gt_14 hb
    have z0_0_15 := v0.mono fresh_old
    clear v0
    have z1_0_15 := v1.mono fresh_old
    clear v1
    have z2_0_15 := v2.mono fresh_old
    clear v2
    have HT := HIW ao0_0s cap0_0s ao1_0s cap1_0s ao2_0s cap2_0s w16 z0_0_15 z1_0_15 z2_0_15
    go_wp2_with fail
    refine HT.mono ?_
    rintro e w17 ⟨hao, hcap, rfl, hO, hb⟩
    clear HT
    clear z0_0_15 z1_0_15 z2_0_15
    have hz_16 : w16.heap.size ≤ w17.heap.size := hb.size
    have B_16 := B_15.trans (hb.mono (by omega))
    have S0_16 := S0_15.below hb (by omega)
    have Wt_16 := Wt_15.later hb
    have WB_16 := WB_15.below hb (by omega)
    have GB_16 := GB_15.below hb (by omega)
    have Gt_16 := Gt_15.later hb
    clear B_15 S0_15 Wt_15 WB_15 GB_15 Gt_15 hb
    clear HIW
    have Ht_16 := atPlanStep_owns hO
    clear hO
    have pc_S0_0 := S0_16 0
    have pc_S0_1 := S0_16 1
    have pc_S0_2 := S0_16 2
    simp at pc_S0_0 pc_S0_1 pc_S0_2
    have py_S0 : w.heap.size < w17.heap.size := by omega
    have pc_WB_0 := WB_16 0
    have pc_WB_1 := WB_16 1
    have pc_WB_2 := WB_16 2
    simp at pc_WB_0 pc_WB_1 pc_WB_2
    have py_WB : w3.heap.size < w17.heap.size := by omega
    have pc_GB_0 := GB_16 0
    have pc_GB_1 := GB_16 1
    have pc_GB_2 := GB_16 2
    simp at pc_GB_0 pc_GB_1 pc_GB_2
    have py_GB : w7.heap.size < w17.heap.size := by omega
    obtain ⟨w18, hwbH⟩ : ∃ W', W' = w17.alloc (.cells #[.slice hao R0.length hcap, .int .i64 R0_1, .int .i64 R0_2] 52) := ⟨_, rfl⟩
    have hb : Below w17.heap.size w17 w18 := by rw [hwbH]; exact (Below.refl _ _).alloc (Nat.le_refl _) _
    have hbx : BxC (w17.heap.size) #[.slice hao R0.length hcap, .int .i64 R0_1, .int .i64 R0_2] w18 := by rw [hwbH]; exact BxC.new _ _ _
    have hzl_HB : w17.heap.size < w18.heap.size := by rw [hwbH]; simp
    have hz_17 : w17.heap.size ≤ w18.heap.size := hb.size
    have B_17 := B_16.trans (hb.mono (by omega))
    have S0_17 := S0_16.below hb (by omega)
    have Wt_17 := Wt_16.later hb
    have WB_17 := WB_16.below hb (by omega)
    have GB_17 := GB_16.below hb (by omega)
    have Gt_17 := Gt_16.later hb
    have Ht_17 := Ht_16.later hb
    clear B_16 S0_16 Wt_16 WB_16 GB_16 Gt_16 Ht_16 hb
    have HB_17 := hbx
    clear hbx
    have HT := eqPlanPathF R0_1 R0_2 hao wao hcap wcap R0 w18 (by unfold maxLen; omega) Ht_17 Wt_17
    rw [hwbH] at HT
    go_wp2_with fail
    refine HT.mono ?_
    rw [← hwbH]
    rintro e w19 ⟨rfl, hb⟩
    clear HT hwbH pc_S0_0 pc_S0_1 pc_S0_2 py_S0 pc_WB_0 pc_WB_1 pc_WB_2 py_WB pc_GB_0 pc_GB_1 pc_GB_2 py_GB
    have hz_18 : w18.heap.size ≤ w19.heap.size := hb.size
    have B_18 := B_17.trans (hb.mono (by omega))
    have S0_18 := S0_17.below hb (by omega)
    have Wt_18 := Wt_17.later hb
    have WB_18 := WB_17.below hb (by omega)
    have GB_18 := GB_17.below hb (by omega)
    have Gt_18 := Gt_17.later hb
    have Ht_18 := Ht_17.later hb
    have HB_18 := HB_17.below hb (by omega)
    clear B_17 S0_17 Wt_17 WB_17 GB_17 Gt_17 Ht_17 HB_17 hb
    clear Ht_18 Wt_18 WB_18 HB_18
    have c_GB_0 := GB_18 0
    have c_GB_1 := GB_18 1
    have c_GB_2 := GB_18 2
    simp at c_GB_0 c_GB_1 c_GB_2
    have HH := heldPlanPathF R0_1 R0_2 gao gcap 1 R0.length w19 (by omega) (by omega) Gt_18
    rw [hLL] at HH
    have HT := HH
    go_wp2_with fail
    refine HT.mono ?_
    rintro e w20 ⟨rfl, hb⟩
    clear HT
    clear HH c_GB_0 c_GB_1 c_GB_2
    have hz_19 : w19.heap.size ≤ w20.heap.size := hb.size
    have B_19 := B_18.trans (hb.mono (by omega))
    have S0_19 := S0_18.below hb (by omega)
    have GB_19 := GB_18.below hb (by omega)
    have Gt_19 := Gt_18.later hb
    clear B_18 S0_18 GB_18 Gt_18 hb
    go_wp2
    go_ret
    exact ⟨rfl, B_19⟩

set_option maxRecDepth 100000 in
set_option maxHeartbeats 2000000 in
theorem great0 (x0 : DPlanBook) (ao0_0 : Option Addr) (cap0_0 : Nat) (ao1_0 : Option Addr) (cap1_0 : Nat) (ao2_0 : Option Addr) (cap2_0 : Nat) (s1 : ByteArray) (w : World) (p0_0 : SliceAt vPlanKind (old w) w ao0_0 cap0_0 x0.1.1) (p1_0 : SliceAt vPlanPoint (old w) w ao1_0 cap1_0 x0.1.2) (p2_0 : SliceAt vPlanEntry (old w) w ao2_0 cap2_0 x0.2) (hs1 : s1.size ≤ maxLen) (hx : ¬ s1.size ≤ 1048576) :
    Calls Tryz.prog 4 #[.agg #[.slice ao0_0 x0.1.1.length cap0_0, .slice ao1_0 x0.1.2.length cap1_0, .slice ao2_0 x0.2.length cap2_0], .string s1] w fun e w' => e = .returned (.bool true) ∧ Below w.heap.size w w' := by
  have hxI : (1048576 : Int) < (s1.size : Int) := by omega
  have B0 : Below w.heap.size w (w.alloc (.cells #[.slice ao0_0 x0.1.1.length cap0_0, .slice ao1_0 x0.1.2.length cap1_0, .slice ao2_0 x0.2.length cap2_0] 28)) := (Below.refl w.heap.size w).alloc (by simp) _
  go_enter Tryz.func4, Tryz.ntmps4
  go_wp2
  go_ret
  exact ⟨rfl, B0⟩

set_option maxRecDepth 100000 in
set_option maxHeartbeats 2000000 in
theorem great1 (x0 : DPlanBook) (ao0_0 : Option Addr) (cap0_0 : Nat) (ao1_0 : Option Addr) (cap1_0 : Nat) (ao2_0 : Option Addr) (cap2_0 : Nat) (s1 : ByteArray) (w : World) (p0_0 : SliceAt vPlanKind (old w) w ao0_0 cap0_0 x0.1.1) (p1_0 : SliceAt vPlanPoint (old w) w ao1_0 cap1_0 x0.1.2) (p2_0 : SliceAt vPlanEntry (old w) w ao2_0 cap2_0 x0.2) (hs1 : s1.size ≤ maxLen) (hq1 : s1.size ≤ 1048576) (hx : ¬ wPlanBook x0 ≤ 1048576) :
    Calls Tryz.prog 4 #[.agg #[.slice ao0_0 x0.1.1.length cap0_0, .slice ao1_0 x0.1.2.length cap1_0, .slice ao2_0 x0.2.length cap2_0], .string s1] w fun e w' => e = .returned (.bool true) ∧ Below w.heap.size w w' := by
  have hq1I : ¬ (1048576 : Int) < (s1.size : Int) := by omega
  have B0 : Below w.heap.size w (w.alloc (.cells #[.slice ao0_0 x0.1.1.length cap0_0, .slice ao1_0 x0.1.2.length cap1_0, .slice ao2_0 x0.2.length cap2_0] 28)) := (Below.refl w.heap.size w).alloc (by simp) _
  have hs : szR (1048576) (wPlanBook x0) = -1 := szR_no (by omega)
  have HT := szPlanBook_any x0 ao0_0 cap0_0 ao1_0 cap1_0 ao2_0 cap2_0 1048576 _ (by omega) (by omega) (p0_0.later B0) (p1_0.later B0) (p2_0.later B0)
  rw [hs] at HT
  have S0_0 : BxC (w.heap.size) #[.slice ao0_0 x0.1.1.length cap0_0, .slice ao1_0 x0.1.2.length cap1_0, .slice ao2_0 x0.2.length cap2_0] (w.alloc (.cells #[.slice ao0_0 x0.1.1.length cap0_0, .slice ao1_0 x0.1.2.length cap1_0, .slice ao2_0 x0.2.length cap2_0] 28)) := by have h := (BxC.new w #[.slice ao0_0 x0.1.1.length cap0_0, .slice ao1_0 x0.1.2.length cap1_0, .slice ao2_0 x0.2.length cap2_0] 28); simpa using h
  have z0 : w.heap.size + 1 ≤ ((w.alloc (.cells #[.slice ao0_0 x0.1.1.length cap0_0, .slice ao1_0 x0.1.2.length cap1_0, .slice ao2_0 x0.2.length cap2_0] 28))).heap.size := by simp
  go_enter Tryz.func4, Tryz.ntmps4
  go_wp2_with fail
  refine HT.mono ?_
  rintro e w1 ⟨rfl, hb⟩
  have B1 := B0.trans (hb.mono B0.size)
  have S0_1 := S0_0.below hb (by omega)
  have z1 := Nat.le_trans z0 hb.size
  clear HT hs hb z0 B0 S0_0
  go_wp2
  go_ret
  exact ⟨rfl, B1⟩

theorem walked (x0 : DPlanBook) (ao0_0 : Option Addr) (cap0_0 : Nat) (ao1_0 : Option Addr) (cap1_0 : Nat) (ao2_0 : Option Addr) (cap2_0 : Nat) (s1 : ByteArray) (w : World) (p0_0 : SliceAt vPlanKind (old w) w ao0_0 cap0_0 x0.1.1) (p1_0 : SliceAt vPlanPoint (old w) w ao1_0 cap1_0 x0.1.2) (p2_0 : SliceAt vPlanEntry (old w) w ao2_0 cap2_0 x0.2) (hs1 : s1.size ≤ maxLen) :
    Calls Tryz.prog 4 #[.agg #[.slice ao0_0 x0.1.1.length cap0_0, .slice ao1_0 x0.1.2.length cap1_0, .slice ao2_0 x0.2.length cap2_0], .string s1] w fun e w' => e = .returned (.bool true) ∧ Below w.heap.size w w' := by
  rcases (Decidable.em (s1.size ≤ 1048576)).symm with hx | hq1
  · exact great0 x0 ao0_0 cap0_0 ao1_0 cap1_0 ao2_0 cap2_0 s1 w p0_0 p1_0 p2_0 hs1 hx
  rcases (Decidable.em (wPlanBook x0 ≤ 1048576)).symm with hx | hn1
  · exact great1 x0 ao0_0 cap0_0 ao1_0 cap1_0 ao2_0 cap2_0 s1 w p0_0 p1_0 p2_0 hs1 hq1 hx
  · exact small x0 ao0_0 cap0_0 ao1_0 cap1_0 ao2_0 cap2_0 s1 w p0_0 p1_0 p2_0 hs1 hq1 hn1

theorem opPlanKind : Opens Tryz.prog 143 vPlanKind :=
  opens_struct Tryz.underlying143 (by kernel_rfl) (opensFs_cons rfl (by kernel_rfl) (opens_str Tryz.underlying9) (opensFs_cons rfl (by kernel_rfl) (opens_int Tryz.underlying3) (opensFs_one rfl (by kernel_rfl) (opens_int Tryz.underlying3))))
theorem opPlanPoint : Opens Tryz.prog 145 vPlanPoint :=
  opens_struct Tryz.underlying145 (by kernel_rfl) (opensFs_cons rfl (by kernel_rfl) (opens_str Tryz.underlying9) (opensFs_cons rfl (by kernel_rfl) (opens_int Tryz.underlying3) (opensFs_one rfl (by kernel_rfl) (opens_int Tryz.underlying3))))
theorem opPlanBase : Opens Tryz.prog 25 vPlanBase :=
  opens_struct Tryz.underlying25 (by kernel_rfl) (opensFs_cons rfl (by kernel_rfl) (opens_slice Tryz.underlying22 (by kernel_rfl) (by decide) opPlanKind) (opensFs_one rfl (by kernel_rfl) (opens_slice Tryz.underlying23 (by kernel_rfl) (by decide) opPlanPoint)))
theorem opPlanField : Opens Tryz.prog 179 vPlanField :=
  opens_struct Tryz.underlying179 (by kernel_rfl) (opensFs_cons rfl (by kernel_rfl) (opens_int Tryz.underlying3) (opensFs_cons rfl (by kernel_rfl) (opens_int Tryz.underlying3) (opensFs_one rfl (by kernel_rfl) (opens_str Tryz.underlying9))))
theorem opPlanEntry : Opens Tryz.prog 105 vPlanEntry :=
  opens_struct Tryz.underlying105 (by kernel_rfl) (opensFs_cons rfl (by kernel_rfl) (opens_str Tryz.underlying9) (opensFs_one rfl (by kernel_rfl) (opens_slice Tryz.underlying103 (by kernel_rfl) (by decide) opPlanField)))
theorem opPlanBook : Opens Tryz.prog 28 vPlanBook :=
  opens_struct Tryz.underlying28 (by kernel_rfl) (opensFs_cons rfl (by kernel_rfl) opPlanBase (opensFs_one rfl (by kernel_rfl) (opens_slice Tryz.underlying26 (by kernel_rfl) (by decide) opPlanEntry)))

open Go.ChangeShapes Go.WideShapes Go.ChangeAt
theorem own : ownKnob Tryz.prog.godebug = none := by kernel_rfl
theorem laidOut : laidOutB Tryz.prog = true := by kernel_rfl

set_option maxRecDepth 100000 in
theorem lifted (os : Os) (started : os.Started) (H : Type) (enc : TypeId × Value → H) :
    ReturnsInHanded {} Tryz.checked os 4 .any (Rows.fnExactPlanPathOfSpec.pre6 enc Tryz.prog Tryz.f4 Rows.fnExactPlanPathOfRow.domain false) (Rows.fnExactPlanPathOfSpec.post enc Tryz.prog Tryz.f4 false true false false) := by
  refine returnsInHanded_of_change (C := Tryz.checked) own started (by kernel_rfl) Tryz.func4
    (ChangeSpec.witness6 (enc := enc) (C := Tryz.checked) false ⟨#[], #[.agg #[.slice none 0 0, .slice none 0 0, .slice none 0 0], .string ByteArray.empty], []⟩ 8 (by kernel_rfl) (by kernel_rfl) (by kernel_rfl) (by kernel_rfl)) ?_
  intro W base args ds gs before hval0 hW hcnd _
  have hval : ∀ (j : Nat) t v, Tryz.f4.params[j]? = some t → args[j]? = some v → Value.okWide Tryz.prog W .any base t v := hval0
  have hW' := hW
  obtain ⟨p, q, hA0, hV, rfl, hfz, hnd⟩ := hW
  have hA : DataW.TrodAll enc Tryz.prog W 0 (fun _ => true) true Tryz.f4.params.toList args.toList ds p := hA0
  rw [Tryz.params4] at hA hval
  have hlt := hA.lt
  obtain ⟨v0, vs0, d0, ds0, pp0, qq0, hargs, rfl, rfl, h0, r0⟩ := trodAll_cons hA
  obtain ⟨v1, vs1, d1, ds1, pp1, qq1, rfl, rfl, rfl, h1, r1⟩ := trodAll_cons r0
  obtain ⟨rfl, rfl, rfl⟩ := trodAll_nil r1
  obtain rfl : args = #[v0, v1] := by cases args; simp_all
  obtain ⟨rfl, rfl⟩ := trodVars_none hV
  obtain ⟨cs, rfl, hcs⟩ := okWide_struct Tryz.underlying28 (hval 0 28 v0 rfl rfl)
  obtain ⟨x0, ao0_0, cap0_0, ao1_0, cap1_0, ao2_0, cap2_0, hx0, p0_0, p1_0, p2_0⟩ : ∃ (x0 : DPlanBook) (ao0_0 : Option Addr) (cap0_0 : Nat) (ao1_0 : Option Addr) (cap1_0 : Nat) (ao2_0 : Option Addr) (cap2_0 : Nat) , cs = #[.slice ao0_0 x0.1.1.length cap0_0, .slice ao1_0 x0.1.2.length cap1_0, .slice ao2_0 x0.2.length cap2_0] ∧ SliceAt vPlanKind (old W) W ao0_0 cap0_0 x0.1.1 ∧ SliceAt vPlanPoint (old W) W ao1_0 cap1_0 x0.1.2 ∧ SliceAt vPlanEntry (old W) W ao2_0 cap2_0 x0.2 := by
    obtain ⟨fl, hy⟩ := h0
    obtain ⟨x, hx⟩ := opPlanBook _ _ _ _ _ _ _ _ _ hy
    obtain ⟨ao0, cap0, ao1, cap1, ao2, cap2, hc, u0, u1, u2⟩ := cells_PlanBook hx
    exact ⟨x, ao0, cap0, ao1, cap1, ao2, cap2, Array.ext' hc, u0, u1, u2⟩
  subst hx0
  obtain ⟨s1, rfl⟩ := okWide_string Tryz.underlying9 (hval 1 9 v1 rfl rfl)
  have hs1 : s1.size ≤ maxLen := by
    obtain ⟨fl, hy⟩ := h1
    obtain ⟨z, hz, hz2⟩ := opens_str Tryz.underlying9 _ _ _ _ _ _ _ _ _ hy
    have e : ([.string s1] : List Value) = [.string z] := hz
    simp at e
    rw [e]; exact hz2
  clear hA0 hval0
  refine (walked x0 ao0_0 cap0_0 ao1_0 cap1_0 ao2_0 cap2_0 s1 W p0_0 p1_0 p2_0 hs1).mono fun e W' ⟨he, bel⟩ => ?_
  subst he
  exact ⟨_, rfl, _, _, _, [], _, _, hW', trodAll_mk1 (shut_bool Tryz.underlying4 _), (trodAll_cons_mk (Below.trod laidOut (by kernel_rfl) (of_decide_eq_true (by kernel_rfl)) h0 bel (fun y hy => hlt y (by simp [hy]))) (trodAll_cons_mk (Below.trod laidOut (by kernel_rfl) (of_decide_eq_true (by kernel_rfl)) h1 bel (fun y hy => hlt y (by simp [hy]))) trodAll_mk0)), rfl, bel.frame _, fun h => by cases h⟩

theorem over : Rows.fnExactPlanPathOfRow.holds Tryz.pinned (OpenSpec.ofChange Rows.fnExactPlanPathOfSpec) :=
  OpenClaim.holds_of_wide 4 Tryz.f4 rfl rfl rfl rfl rfl rfl rfl ⟨rfl, rfl, rfl, rfl, rfl⟩ rfl rfl rfl rfl rfl (by kernel_rfl) Tryz.func4 (by kernel_rfl)
    (of_decide_eq_true (by kernel_rfl)) (by unfold Func.isWrapper; first | (rw [if_pos (by decide +kernel)]; kernel_rfl) | (rw [if_neg (by decide +kernel)]; exact ⟨rfl, rfl⟩))
    (fun os started H enc _ => lifted os started H enc)
end ExPath

theorem exactPathOf_proved : Rows.FnExactPlanPathOfSaid := ExPath.over
#print axioms exactPathOf_proved
end Go.Proofs.YtgnjkpmbppmoeaaGreat
