/-
  For every path of flying and every list of ticks, laws.FnExactFlyLawful returns true, and both read behind the call as they read before: impl.FlyLawful answers as the specification's FlyLawful does and writes into no argument.
  No condition of ours: the statement as given (Rows.FnExactFlyLawfulSaid).
-/
import Derived.Test.YtfjeiegoblaadaaFlI2
import Derived.Test.YtfjeiegoblaadaaFlS1
import Derived.Deep.RegionWith
import Derived.ProofKit
import Derived.OpenShut
import Derived.ChangeOld
import Derived.Lib.LaidTab
import Derived.ChangeBears2
namespace Go.Proofs.Ytfjeiegoblaadaa
namespace ExFyLawful
open Go.RowKit
set_option linter.unusedSimpArgs false
set_option linter.unusedVariables false

set_option maxRecDepth 100000 in
set_option maxHeartbeats 8000000 in
theorem small (x0 : DFlyPath) (ao2_0 : Option Addr) (cap2_0 : Nat) (ao1 : Option Addr) (cap1 : Nat) (l1 : List Int) (w : World) (p2_0 : SliceAt vFlyStep (old w) w ao2_0 cap2_0 x0.2.1) (hl1 : SliceAt vInt (old w) w ao1 cap1 l1) (hq1 : l1.length ≤ 1048576) (hn : wFlyPath x0 ≤ 1048576) :
    Calls Try.prog 5 #[.agg #[.int .i64 x0.1.1, .int .i64 x0.1.2, .slice ao2_0 x0.2.1.length cap2_0, .int .i64 x0.2.2.1, .int .i64 x0.2.2.2], .slice ao1 l1.length cap1] w fun e w' => e = .returned (.bool true) ∧ Below w.heap.size w w' := by
  have hn0 : wFlyPath x0 ≤ 1048576 := by omega
  have hq1I : ¬ (1048576 : Int) < (l1.length : Int) := by omega
  have hsz0 : szR (1048576) (wFlyPath x0) = 1048576 - (wFlyPath x0 : Int) := szR_yes (by omega)
  have hnn0 : decide ((1048576 - (wFlyPath x0 : Int)) < 0) = false := by simp; omega
  have HSW := fun ao2_0' cap2_0' ao1' cap1' W (u2_0 : SliceAt vFlyStep (old W) W ao2_0' cap2_0' x0.2.1) (u1 : SliceAt vInt (old W) W ao1' cap1' l1) => Fly.sLawful x0 l1 ao2_0' cap2_0' ao1' cap1' W u2_0 u1
  have HIW := fun ao2_0' cap2_0' ao1' cap1' W (u2_0 : SliceAt vFlyStep (old W) W ao2_0' cap2_0' x0.2.1) (u1 : SliceAt vInt (old W) W ao1' cap1' l1) => Fly.iLawful x0 l1 ao2_0' cap2_0' ao1' cap1' W u2_0 u1
  obtain ⟨R0, hRe0⟩ : ∃ R, R = (pb (Fly.Lawful x0 l1)) := ⟨_, rfl⟩
  simp only [← hRe0] at HSW HIW
  clear hRe0
  have hbn0 : (R0 != R0) = false := by simp
  obtain ⟨w0, hw0⟩ : ∃ w0, w0 = (w.alloc (.cells #[.int .i64 x0.1.1, .int .i64 x0.1.2, .slice ao2_0 x0.2.1.length cap2_0, .int .i64 x0.2.2.1, .int .i64 x0.2.2.2] 30)) := ⟨_, rfl⟩
  have hz_0 : w0.heap.size = w.heap.size + 1 := by rw [hw0]; simp
  have B_0 : Below w.heap.size w w0 := by rw [hw0]; exact (Below.refl w.heap.size w).alloc (by simp) _
  have S0_0 : BxC (w.heap.size) #[.int .i64 x0.1.1, .int .i64 x0.1.2, .slice ao2_0 x0.2.1.length cap2_0, .int .i64 x0.2.2.1, .int .i64 x0.2.2.2] w0 := by rw [hw0]; exact BxC.new w _ _
  have HT := szFlyPath_any x0 ao2_0 cap2_0 1048576 w0 (by omega) (by omega) (p2_0.later B_0)
  rw [hsz0] at HT
  rw [hw0] at HT
  go_enter Try.func5, Try.ntmps5
  go_wp2_with fail
  refine HT.mono ?_
  rw [← hw0]
  rintro e w1 ⟨rfl, hb⟩
  clear HT hw0
  clear hsz0 
  have hz_1 : w0.heap.size ≤ w1.heap.size := hb.size
  have B_1 := B_0.trans (hb.mono (by omega))
  have S0_1 := S0_0.below hb (by omega)
  clear B_0 S0_0 hb
  obtain ⟨L0, hL0⟩ : ∃ L : Int, 1048576 - (wFlyPath x0 : Int) = L := ⟨_, rfl⟩
  simp only [hL0] at hnn0 ⊢
  clear hL0
  have c0_0 := S0_1 0
  have c0_1 := S0_1 1
  have c0_2 := S0_1 2
  have c0_3 := S0_1 3
  have c0_4 := S0_1 4
  simp at c0_0 c0_1 c0_2 c0_3 c0_4
  have HT := toFlyPath_any x0 ao2_0 cap2_0 w1 (p2_0.later B_1) hn0
  go_wp2_with fail
  refine HT.mono ?_
  rintro e w2 ⟨ao2_0p, cap2_0p, rfl, v2, hb⟩
  clear HT
  clear c0_0 c0_1 c0_2 c0_3 c0_4
  have hz_2 : w1.heap.size ≤ w2.heap.size := hb.size
  have B_2 := B_1.trans (hb.mono (by omega))
  have S0_2 := S0_1.below hb (by omega)
  clear B_1 S0_1 hb
  have v2_0_2 := v2.mono fresh_old
  clear v2
  have HT := toIntS_any ao1 cap1 l1 w2 hq1 (hl1.later B_2)
  go_wp2_with fail
  refine HT.mono ?_
  rintro e w3 ⟨ao1p, cap1p, rfl, v, hb⟩
  clear HT
  have hz_3 : w2.heap.size ≤ w3.heap.size := hb.size
  have B_3 := B_2.trans (hb.mono (by omega))
  have S0_3 := S0_2.below hb (by omega)
  have v2_0_3 := v2_0_2.later hb
  clear B_2 S0_2 v2_0_2 hb
  have v1_3 := v.mono fresh_old
  clear v
  have HT := HSW ao2_0p cap2_0p ao1p cap1p w3 v2_0_3 v1_3
  go_wp2_with fail
  refine HT.mono ?_
  rintro e w4 ⟨rfl, hb⟩
  clear HT
  clear v2_0_3 v1_3
  have hz_4 : w3.heap.size ≤ w4.heap.size := hb.size
  have B_4 := B_3.trans (hb.mono (by omega))
  have S0_4 := S0_3.below hb (by omega)
  clear B_3 S0_3 hb
  clear HSW
  have c0_0 := S0_4 0
  have c0_1 := S0_4 1
  have c0_2 := S0_4 2
  have c0_3 := S0_4 3
  have c0_4 := S0_4 4
  simp at c0_0 c0_1 c0_2 c0_3 c0_4
  have HT := toFlyPath_any x0 ao2_0 cap2_0 w4 (p2_0.later B_4) hn0
  go_wp2_with fail
  refine HT.mono ?_
  rintro e w5 ⟨ao2_0q, cap2_0q, rfl, v2, hb⟩
  clear HT
  clear c0_0 c0_1 c0_2 c0_3 c0_4
  have hz_5 : w4.heap.size ≤ w5.heap.size := hb.size
  have B_5 := B_4.trans (hb.mono (by omega))
  have S0_5 := S0_4.below hb (by omega)
  clear B_4 S0_4 hb
  have x2_0_5 := v2.mono fresh_old
  clear v2
  obtain ⟨w6, hwb0⟩ : ∃ W', W' = w5.alloc (.cells #[.int .i64 x0.1.1, .int .i64 x0.1.2, .slice ao2_0q x0.2.1.length cap2_0q, .int .i64 x0.2.2.1, .int .i64 x0.2.2.2] 35) := ⟨_, rfl⟩
  have hb : Below w5.heap.size w5 w6 := by rw [hwb0]; exact (Below.refl _ _).alloc (Nat.le_refl _) _
  have hbx : BxC (w5.heap.size) #[.int .i64 x0.1.1, .int .i64 x0.1.2, .slice ao2_0q x0.2.1.length cap2_0q, .int .i64 x0.2.2.1, .int .i64 x0.2.2.2] w6 := by rw [hwb0]; exact BxC.new _ _ _
  have hzx0 : w5.heap.size < w6.heap.size := by rw [hwb0]; simp
  have hz_6 : w5.heap.size ≤ w6.heap.size := hb.size
  have B_6 := B_5.trans (hb.mono (by omega))
  have S0_6 := S0_5.below hb (by omega)
  have x2_0_6 := x2_0_5.later hb
  clear B_5 S0_5 x2_0_5 hb
  have X0_6 := hbx
  clear hbx
  have HT := toIntS_any ao1 cap1 l1 w6 hq1 (hl1.later B_6)
  rw [hwb0] at HT
  go_wp2_with fail
  refine HT.mono ?_
  rw [← hwb0]
  rintro e w7 ⟨ao1q, cap1q, rfl, v, hb⟩
  clear HT hwb0
  have hz_7 : w6.heap.size ≤ w7.heap.size := hb.size
  have B_7 := B_6.trans (hb.mono (by omega))
  have S0_7 := S0_6.below hb (by omega)
  have x2_0_7 := x2_0_6.later hb
  have X0_7 := X0_6.below hb (by omega)
  clear B_6 S0_6 x2_0_6 X0_6 hb
  have x1_7 := v.mono fresh_old
  clear v
  have c0_0 := X0_7 0
  have c0_1 := X0_7 1
  have c0_2 := X0_7 2
  have c0_3 := X0_7 3
  have c0_4 := X0_7 4
  simp at c0_0 c0_1 c0_2 c0_3 c0_4
  have HT := HIW ao2_0q cap2_0q ao1q cap1q w7 x2_0_7 x1_7
  go_wp2_with fail
  refine HT.mono ?_
  rintro e w8 ⟨rfl, hb⟩
  clear HT
  clear c0_0 c0_1 c0_2 c0_3 c0_4
  have hz_8 : w7.heap.size ≤ w8.heap.size := hb.size
  have B_8 := B_7.trans (hb.mono (by omega))
  have S0_8 := S0_7.below hb (by omega)
  have x2_0_8 := x2_0_7.later hb
  have X0_8 := X0_7.below hb (by omega)
  have x1_8 := x1_7.later hb
  clear B_7 S0_7 x2_0_7 X0_7 x1_7 hb
  clear HIW
  have dx0_0 := X0_8 0
  have dx0_1 := X0_8 1
  have dx0_2 := X0_8 2
  have dx0_3 := X0_8 3
  have dx0_4 := X0_8 4
  simp at dx0_0 dx0_1 dx0_2 dx0_3 dx0_4
  have c0_0 := S0_8 0
  have c0_1 := S0_8 1
  have c0_2 := S0_8 2
  have c0_3 := S0_8 3
  have c0_4 := S0_8 4
  simp at c0_0 c0_1 c0_2 c0_3 c0_4
  have hbd : Below w8.heap.size w8 w8.drew := (Below.refl _ _).drew
  have d2_0 := x2_0_8.later hbd
  have HT := toFlyPath_any x0 ao2_0 cap2_0 w8.drew (p2_0.later (B_8.trans (hbd.mono (by omega)))) hn0
  have hxd : w5.heap.size < w8.drew.heap.size := by show _ < w8.heap.size; omega
  go_wp2_with fail
  go_region_with (first | (go_at_call 12; refine HT.mono ?_; rintro e w9 ⟨ao2_0r, cap2_0r, rfl, v2, hb1⟩; have k0 := (hb1.cell (p := ⟨w5.heap.size, 0, none⟩) hxd).trans dx0_0; have k1 := (hb1.cell (p := ⟨w5.heap.size, 1, none⟩) hxd).trans dx0_1; have k2 := (hb1.cell (p := ⟨w5.heap.size, 2, none⟩) hxd).trans dx0_2; have k3 := (hb1.cell (p := ⟨w5.heap.size, 3, none⟩) hxd).trans dx0_3; have k4 := (hb1.cell (p := ⟨w5.heap.size, 4, none⟩) hxd).trans dx0_4) | (go_at_call 14; refine (eqFlyPath_any x0 ao2_0q cap2_0q ao2_0r cap2_0r _ (d2_0.later hb1) (v2.mono fresh_old) hn0).mono ?_; rintro e w10 ⟨rfl, hb2⟩))
  all_goals
    have hb : Below w8.heap.size w8 w10 := (hbd.trans hb1).trans (hb2.mono (show w8.drew.heap.size ≤ w9.heap.size from hb1.size))
    clear HT hbd hb1 hb2 hxd d2_0 v2 k0 k1 k2 k3 k4 c0_0 c0_1 c0_2 c0_3 c0_4 dx0_0 dx0_1 dx0_2 dx0_3 dx0_4
    clear x2_0_8 X0_8
    have hz_9 : w8.heap.size ≤ w10.heap.size := hb.size
    have B_9 := B_8.trans (hb.mono (by omega))
    have S0_9 := S0_8.below hb (by omega)
    have x1_9 := x1_8.later hb
    clear B_8 S0_8 x1_8 hb
    have HT := toIntS_any ao1 cap1 l1 w10 hq1 (hl1.later B_9)
    go_wp2_with fail
    refine HT.mono ?_
    rintro e w11 ⟨ao1r, cap1r, rfl, v, hb⟩
    clear HT
    have hz_10 : w10.heap.size ≤ w11.heap.size := hb.size
    have B_10 := B_9.trans (hb.mono (by omega))
    have S0_10 := S0_9.below hb (by omega)
    have x1_10 := x1_9.later hb
    clear B_9 S0_9 x1_9 hb
    have y1_10 := v.mono fresh_old
    clear v
    have HT := eqIntS_any ao1q ao1r cap1q cap1r l1 w11 hq1 x1_10 y1_10
    go_wp2_with fail
    refine HT.mono ?_
    rintro e w12 ⟨rfl, hb⟩
    clear HT
    clear y1_10 x1_10
    have hz_11 : w11.heap.size ≤ w12.heap.size := hb.size
    have B_11 := B_10.trans (hb.mono (by omega))
    have S0_11 := S0_10.below hb (by omega)
    clear B_10 S0_10 hb
    go_wp2
    go_ret
    exact ⟨rfl, B_11⟩

set_option maxRecDepth 100000 in
set_option maxHeartbeats 2000000 in
theorem great0 (x0 : DFlyPath) (ao2_0 : Option Addr) (cap2_0 : Nat) (ao1 : Option Addr) (cap1 : Nat) (l1 : List Int) (w : World) (p2_0 : SliceAt vFlyStep (old w) w ao2_0 cap2_0 x0.2.1) (hl1 : SliceAt vInt (old w) w ao1 cap1 l1) (hx : ¬ l1.length ≤ 1048576) :
    Calls Try.prog 5 #[.agg #[.int .i64 x0.1.1, .int .i64 x0.1.2, .slice ao2_0 x0.2.1.length cap2_0, .int .i64 x0.2.2.1, .int .i64 x0.2.2.2], .slice ao1 l1.length cap1] w fun e w' => e = .returned (.bool true) ∧ Below w.heap.size w w' := by
  have hxI : (1048576 : Int) < (l1.length : Int) := by omega
  have B0 : Below w.heap.size w (w.alloc (.cells #[.int .i64 x0.1.1, .int .i64 x0.1.2, .slice ao2_0 x0.2.1.length cap2_0, .int .i64 x0.2.2.1, .int .i64 x0.2.2.2] 30)) := (Below.refl w.heap.size w).alloc (by simp) _
  go_enter Try.func5, Try.ntmps5
  go_wp2
  go_ret
  exact ⟨rfl, B0⟩

set_option maxRecDepth 100000 in
set_option maxHeartbeats 2000000 in
theorem great1 (x0 : DFlyPath) (ao2_0 : Option Addr) (cap2_0 : Nat) (ao1 : Option Addr) (cap1 : Nat) (l1 : List Int) (w : World) (p2_0 : SliceAt vFlyStep (old w) w ao2_0 cap2_0 x0.2.1) (hl1 : SliceAt vInt (old w) w ao1 cap1 l1) (hq1 : l1.length ≤ 1048576) (hx : ¬ wFlyPath x0 ≤ 1048576) :
    Calls Try.prog 5 #[.agg #[.int .i64 x0.1.1, .int .i64 x0.1.2, .slice ao2_0 x0.2.1.length cap2_0, .int .i64 x0.2.2.1, .int .i64 x0.2.2.2], .slice ao1 l1.length cap1] w fun e w' => e = .returned (.bool true) ∧ Below w.heap.size w w' := by
  have hq1I : ¬ (1048576 : Int) < (l1.length : Int) := by omega
  have B0 : Below w.heap.size w (w.alloc (.cells #[.int .i64 x0.1.1, .int .i64 x0.1.2, .slice ao2_0 x0.2.1.length cap2_0, .int .i64 x0.2.2.1, .int .i64 x0.2.2.2] 30)) := (Below.refl w.heap.size w).alloc (by simp) _
  have hs : szR (1048576) (wFlyPath x0) = -1 := szR_no (by omega)
  have HT := szFlyPath_any x0 ao2_0 cap2_0 1048576 _ (by omega) (by omega) (p2_0.later B0)
  rw [hs] at HT
  have S0_0 : BxC (w.heap.size) #[.int .i64 x0.1.1, .int .i64 x0.1.2, .slice ao2_0 x0.2.1.length cap2_0, .int .i64 x0.2.2.1, .int .i64 x0.2.2.2] (w.alloc (.cells #[.int .i64 x0.1.1, .int .i64 x0.1.2, .slice ao2_0 x0.2.1.length cap2_0, .int .i64 x0.2.2.1, .int .i64 x0.2.2.2] 30)) := by have h := (BxC.new w #[.int .i64 x0.1.1, .int .i64 x0.1.2, .slice ao2_0 x0.2.1.length cap2_0, .int .i64 x0.2.2.1, .int .i64 x0.2.2.2] 30); simpa using h
  have z0 : w.heap.size + 1 ≤ ((w.alloc (.cells #[.int .i64 x0.1.1, .int .i64 x0.1.2, .slice ao2_0 x0.2.1.length cap2_0, .int .i64 x0.2.2.1, .int .i64 x0.2.2.2] 30))).heap.size := by simp
  go_enter Try.func5, Try.ntmps5
  go_wp2_with fail
  refine HT.mono ?_
  rintro e w1 ⟨rfl, hb⟩
  have B1 := B0.trans (hb.mono B0.size)
  have S0_1 := S0_0.below hb (by omega)
  have z1 := Nat.le_trans z0 hb.size
  clear HT hs hb z0 B0 S0_0
  go_wp2
  go_ret
  exact ⟨rfl, B1⟩

theorem walked (x0 : DFlyPath) (ao2_0 : Option Addr) (cap2_0 : Nat) (ao1 : Option Addr) (cap1 : Nat) (l1 : List Int) (w : World) (p2_0 : SliceAt vFlyStep (old w) w ao2_0 cap2_0 x0.2.1) (hl1 : SliceAt vInt (old w) w ao1 cap1 l1) :
    Calls Try.prog 5 #[.agg #[.int .i64 x0.1.1, .int .i64 x0.1.2, .slice ao2_0 x0.2.1.length cap2_0, .int .i64 x0.2.2.1, .int .i64 x0.2.2.2], .slice ao1 l1.length cap1] w fun e w' => e = .returned (.bool true) ∧ Below w.heap.size w w' := by
  rcases (Decidable.em (l1.length ≤ 1048576)).symm with hx | hq1
  · exact great0 x0 ao2_0 cap2_0 ao1 cap1 l1 w p2_0 hl1 hx
  rcases (Decidable.em (wFlyPath x0 ≤ 1048576)).symm with hx | hn1
  · exact great1 x0 ao2_0 cap2_0 ao1 cap1 l1 w p2_0 hl1 hq1 hx
  · exact small x0 ao2_0 cap2_0 ao1 cap1 l1 w p2_0 hl1 hq1 hn1

theorem opFlyKind : Opens Try.prog 23 vFlyKind :=
  opens_struct Try.underlying23 (by kernel_rfl) (opensFs_cons rfl (by kernel_rfl) (opens_int Try.underlying3) (opensFs_one rfl (by kernel_rfl) (opens_int Try.underlying3)))
theorem opFlyStep : Opens Try.prog 61 vFlyStep :=
  opens_struct Try.underlying61 (by kernel_rfl) (opensFs_cons rfl (by kernel_rfl) (opens_int Try.underlying3) (opensFs_cons rfl (by kernel_rfl) (opens_int Try.underlying3) (opensFs_cons rfl (by kernel_rfl) (opens_int Try.underlying3) (opensFs_cons rfl (by kernel_rfl) (opens_int Try.underlying3) (opensFs_cons rfl (by kernel_rfl) (opens_int Try.underlying3) (opensFs_cons rfl (by kernel_rfl) (opens_int Try.underlying3) (opensFs_one rfl (by kernel_rfl) (opens_bool Try.underlying4))))))))
theorem opFlyPath : Opens Try.prog 30 vFlyPath :=
  opens_struct Try.underlying30 (by kernel_rfl) (opensFs_cons rfl (by kernel_rfl) opFlyKind (opensFs_cons rfl (by kernel_rfl) (opens_slice Try.underlying28 (by kernel_rfl) (by decide) opFlyStep) (opensFs_cons rfl (by kernel_rfl) (opens_int Try.underlying3) (opensFs_one rfl (by kernel_rfl) (opens_int Try.underlying3)))))

open Go.ChangeShapes Go.WideShapes Go.ChangeAt
theorem own : ownKnob Try.prog.godebug = none := by kernel_rfl
theorem laidOut : laidOutB Try.prog = true := by kernel_rfl

set_option maxRecDepth 100000 in
theorem lifted (os : Os) (started : os.Started) (H : Type) (enc : TypeId × Value → H) :
    ReturnsInHanded {} Try.checked os 5 .any (Rows.fnExactFlyLawfulSpec.pre6 enc Try.prog Try.f5 Rows.fnExactFlyLawfulRow.domain false) (Rows.fnExactFlyLawfulSpec.post enc Try.prog Try.f5 false true false false) := by
  refine returnsInHanded_of_change (C := Try.checked) own started (by kernel_rfl) Try.func5
    (ChangeSpec.witness6 (enc := enc) (C := Try.checked) false ⟨#[], #[.agg #[.int .i64 0, .int .i64 0, .slice none 0 0, .int .i64 0, .int .i64 0], .slice none 0 0], []⟩ 8 (by kernel_rfl) (by kernel_rfl) (by kernel_rfl) (by kernel_rfl)) ?_
  intro W base args ds gs before hval0 hW hcnd _
  have hval : ∀ (j : Nat) t v, Try.f5.params[j]? = some t → args[j]? = some v → Value.okWide Try.prog W .any base t v := hval0
  have hW' := hW
  obtain ⟨p, q, hA0, hV, rfl, hfz, hnd⟩ := hW
  have hA : DataW.TrodAll enc Try.prog W 0 (fun _ => true) true Try.f5.params.toList args.toList ds p := hA0
  rw [Try.params5] at hA hval
  have hlt := hA.lt
  obtain ⟨v0, vs0, d0, ds0, pp0, qq0, hargs, rfl, rfl, h0, r0⟩ := trodAll_cons hA
  obtain ⟨v1, vs1, d1, ds1, pp1, qq1, rfl, rfl, rfl, h1, r1⟩ := trodAll_cons r0
  obtain ⟨rfl, rfl, rfl⟩ := trodAll_nil r1
  obtain rfl : args = #[v0, v1] := by cases args; simp_all
  obtain ⟨rfl, rfl⟩ := trodVars_none hV
  obtain ⟨cs, rfl, hcs⟩ := okWide_struct Try.underlying30 (hval 0 30 v0 rfl rfl)
  obtain ⟨x0, ao2_0, cap2_0, hx0, p2_0⟩ : ∃ (x0 : DFlyPath) (ao2_0 : Option Addr) (cap2_0 : Nat) , cs = #[.int .i64 x0.1.1, .int .i64 x0.1.2, .slice ao2_0 x0.2.1.length cap2_0, .int .i64 x0.2.2.1, .int .i64 x0.2.2.2] ∧ SliceAt vFlyStep (old W) W ao2_0 cap2_0 x0.2.1 := by
    obtain ⟨fl, hy⟩ := h0
    obtain ⟨x, hx⟩ := opFlyPath _ _ _ _ _ _ _ _ _ hy
    obtain ⟨ao2, cap2, hc, u0, u1, u2, u3, u4⟩ := cells_FlyPath hx
    exact ⟨x, ao2, cap2, Array.ext' hc, u2⟩
  subst hx0
  obtain ⟨ao1, ln1, cap1, rfl⟩ := okWide_slice Try.underlying39 (hval 1 39 v1 rfl rfl)
  obtain ⟨l1, hl1, rfl⟩ : ∃ l1 : List Int, SliceAt vInt (old W) W ao1 cap1 l1 ∧ ln1 = l1.length := by
    obtain ⟨fl, hy⟩ := h1
    obtain ⟨l, lao, lcap, hlc, hl⟩ := (opens_slice Try.underlying39 (by kernel_rfl) (by decide) (opens_int Try.underlying3)) _ _ _ _ _ _ _ _ _ hy
    have e : ([.slice ao1 ln1 cap1] : List Value) = [.slice lao l.length lcap] := hlc
    simp at e
    obtain ⟨rfl, rfl, rfl⟩ := e
    exact ⟨l, hl, rfl⟩
  clear hA0 hval0
  refine (walked x0 ao2_0 cap2_0 ao1 cap1 l1 W p2_0 hl1).mono fun e W' ⟨he, bel⟩ => ?_
  subst he
  exact ⟨_, rfl, _, _, _, [], _, _, hW', trodAll_mk1 (shut_bool Try.underlying4 _), (trodAll_cons_mk (Below.trod laidOut (by kernel_rfl) (of_decide_eq_true (by kernel_rfl)) h0 bel (fun y hy => hlt y (by simp [hy]))) (trodAll_cons_mk (Below.trod laidOut (by kernel_rfl) (of_decide_eq_true (by kernel_rfl)) h1 bel (fun y hy => hlt y (by simp [hy]))) trodAll_mk0)), rfl, bel.frame _, fun h => by cases h⟩

theorem over : Rows.fnExactFlyLawfulRow.holds Try.pinned (OpenSpec.ofChange Rows.fnExactFlyLawfulSpec) :=
  OpenClaim.holds_of_wide 5 Try.f5 rfl rfl rfl rfl rfl rfl rfl ⟨rfl, rfl, rfl, rfl, rfl⟩ rfl rfl rfl rfl rfl (by kernel_rfl) Try.func5 (by kernel_rfl)
    (of_decide_eq_true (by kernel_rfl)) (by unfold Func.isWrapper; first | (rw [if_pos (by decide +kernel)]; kernel_rfl) | (rw [if_neg (by decide +kernel)]; exact ⟨rfl, rfl⟩))
    (fun os started H enc _ => lifted os started H enc)
end ExFyLawful

theorem exactLawful_proved : Rows.FnExactFlyLawfulSaid := ExFyLawful.over
#print axioms exactLawful_proved
end Go.Proofs.Ytfjeiegoblaadaa
