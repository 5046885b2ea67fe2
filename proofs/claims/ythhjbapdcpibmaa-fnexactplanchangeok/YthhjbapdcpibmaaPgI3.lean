/- DERIVED. impl.planValueFits, impl.PlanFits: their walks (written by wip/tools/mk_pg.py). -/
import Derived.Test.YthhjbapdcpibmaaPfI1
import Derived.Test.YthhjbapdcpibmaaPfI2
import Derived.Test.YthhjbapdcpibmaaPlI3
import Derived.Test.YthhjbapdcpibmaaPlL0
namespace Go.Proofs.Ythhjbapdcpibmaa
open Go.RowKit
set_option linter.unusedSimpArgs false
set_option linter.unusedVariables false

theorem methFitsKind (a : Value) (w : World) : (method (248 + 1) 115 (.agg #[a]) "loop.example/lapwing/impl.fits").run Try.prog w = .ok (89, .agg #[a]) w := by kernel_rfl
theorem methFitsTime (w : World) : (method (248 + 1) 117 (.agg #[]) "loop.example/lapwing/impl.fits").run Try.prog w = .ok (91, .agg #[]) w := by kernel_rfl
theorem methFitsLevel (w : World) : (method (248 + 1) 118 (.agg #[]) "loop.example/lapwing/impl.fits").run Try.prog w = .ok (94, .agg #[]) w := by kernel_rfl
theorem methFitsRoute (a : Value) (w : World) : (method (248 + 1) 120 (.agg #[a]) "loop.example/lapwing/impl.fits").run Try.prog w = .ok (95, .agg #[a]) w := by kernel_rfl
theorem methFitsState (w : World) : (method (248 + 1) 121 (.agg #[]) "loop.example/lapwing/impl.fits").run Try.prog w = .ok (97, .agg #[]) w := by kernel_rfl

set_option maxRecDepth 100000 in
set_option maxHeartbeats 2000000 in
theorem iVal1 (x : DPlanBase) (ao0 : Option Addr) (cap0 : Nat) (ao1 : Option Addr) (cap1 : Nat) (v : ByteArray) (w : World) (h : BaseAt w x ao0 cap0 ao1 cap1) (hok : BaseOk x) (hv : v.size ≤ 1048576) :
    Calls Try.prog 37 #[.agg #[.slice ao0 x.1.length cap0, .slice ao1 x.2.length cap1], .int .i64 1, .string v] w fun e w' => e = .returned (.bool (pb (FitsOk x 1 v))) ∧ Below w.heap.size w w' := by
  have hm := methFitsKind
  have HE := fits1 x v
  have hb0 : Below w.heap.size w (w.alloc (.cells #[.slice ao0 x.1.length cap0, .slice ao1 x.2.length cap1] 34)) := (Below.refl _ _).alloc (Nat.le_refl _) _
  have HB0 := BxC.new w #[.slice ao0 x.1.length cap0, .slice ao1 x.2.length cap1] 34
  go_enter Try.func37, Try.ntmps37
  go_wp2_with fail
  refine (Psd.said_any ao0 ao1 x.1.length x.2.length cap0 cap1 _).mono ?_
  rintro e w1 ⟨B, rfl, hl0, hb1⟩
  have HB1 := HB0.below hb1 (by simp)
  have hB1 := hb0.trans (hb1.mono hb0.size)
  have hz1 : w.heap.size < w1.heap.size := by have := hb1.size; simp at this; omega
  have hl : (Instr.lookup 102 (.map (some B)) (.int .i64 1) true).run Try.prog w1 = .ok (.tuple #[.iface 115 (.agg #[.slice ao0 x.1.length cap0]), .bool true]) w1 := hl0 1 (by unfold In64; omega)
  have HR : Hid (pb (FitsOk x 1 v) = pb (FitsAs x 1 v)) := pb_same ⟨fun h => h.2, fun h => ⟨hok, h⟩⟩
  have HR2 : Hid (pb (FitsAs x 1 v) = _) := pb_same HE
  clear hl0 hb1 hb0 HB0 HB1 hok HE
  go_wp2_with fail
  refine (fitsKind ao0 cap0 x.1 v _ (h.later hB1).p0).mono ?_
  rintro e w4 ⟨rfl, hb4⟩
  have hB4 := hB1.trans (hb4.mono hB1.size)
  clear hb4 hl
  go_wp2
  go_ret
  exact ⟨by rw [HR.out, HR2.out]; rfl, hB4⟩

set_option maxRecDepth 100000 in
set_option maxHeartbeats 2000000 in
theorem iVal2 (x : DPlanBase) (ao0 : Option Addr) (cap0 : Nat) (ao1 : Option Addr) (cap1 : Nat) (v : ByteArray) (w : World) (h : BaseAt w x ao0 cap0 ao1 cap1) (hok : BaseOk x) (hv : v.size ≤ 1048576) :
    Calls Try.prog 37 #[.agg #[.slice ao0 x.1.length cap0, .slice ao1 x.2.length cap1], .int .i64 2, .string v] w fun e w' => e = .returned (.bool (pb (FitsOk x 2 v))) ∧ Below w.heap.size w w' := by
  have hm := methFitsTime
  have HE := fits2 x v
  have hb0 : Below w.heap.size w (w.alloc (.cells #[.slice ao0 x.1.length cap0, .slice ao1 x.2.length cap1] 34)) := (Below.refl _ _).alloc (Nat.le_refl _) _
  have HB0 := BxC.new w #[.slice ao0 x.1.length cap0, .slice ao1 x.2.length cap1] 34
  go_enter Try.func37, Try.ntmps37
  go_wp2_with fail
  refine (Psd.said_any ao0 ao1 x.1.length x.2.length cap0 cap1 _).mono ?_
  rintro e w1 ⟨B, rfl, hl0, hb1⟩
  have HB1 := HB0.below hb1 (by simp)
  have hB1 := hb0.trans (hb1.mono hb0.size)
  have hz1 : w.heap.size < w1.heap.size := by have := hb1.size; simp at this; omega
  have hl : (Instr.lookup 102 (.map (some B)) (.int .i64 2) true).run Try.prog w1 = .ok (.tuple #[.iface 117 (.agg #[]), .bool true]) w1 := hl0 2 (by unfold In64; omega)
  have HR : Hid (pb (FitsOk x 2 v) = pb (FitsAs x 2 v)) := pb_same ⟨fun h => h.2, fun h => ⟨hok, h⟩⟩
  have HR2 : Hid (pb (FitsAs x 2 v) = _) := pb_same HE
  clear hl0 hb1 hb0 HB0 HB1 hok HE
  go_wp2_with fail
  refine (fitsTime v _ hv).mono ?_
  rintro e w4 ⟨rfl, hb4⟩
  have hB4 := hB1.trans (hb4.mono hB1.size)
  clear hb4 hl
  go_wp2
  go_ret
  exact ⟨by rw [HR.out, HR2.out]; rfl, hB4⟩

set_option maxRecDepth 100000 in
set_option maxHeartbeats 2000000 in
theorem iVal3 (x : DPlanBase) (ao0 : Option Addr) (cap0 : Nat) (ao1 : Option Addr) (cap1 : Nat) (v : ByteArray) (w : World) (h : BaseAt w x ao0 cap0 ao1 cap1) (hok : BaseOk x) (hv : v.size ≤ 1048576) :
    Calls Try.prog 37 #[.agg #[.slice ao0 x.1.length cap0, .slice ao1 x.2.length cap1], .int .i64 3, .string v] w fun e w' => e = .returned (.bool (pb (FitsOk x 3 v))) ∧ Below w.heap.size w w' := by
  have hm := methFitsLevel
  have HE := fits3 x v
  have hb0 : Below w.heap.size w (w.alloc (.cells #[.slice ao0 x.1.length cap0, .slice ao1 x.2.length cap1] 34)) := (Below.refl _ _).alloc (Nat.le_refl _) _
  have HB0 := BxC.new w #[.slice ao0 x.1.length cap0, .slice ao1 x.2.length cap1] 34
  go_enter Try.func37, Try.ntmps37
  go_wp2_with fail
  refine (Psd.said_any ao0 ao1 x.1.length x.2.length cap0 cap1 _).mono ?_
  rintro e w1 ⟨B, rfl, hl0, hb1⟩
  have HB1 := HB0.below hb1 (by simp)
  have hB1 := hb0.trans (hb1.mono hb0.size)
  have hz1 : w.heap.size < w1.heap.size := by have := hb1.size; simp at this; omega
  have hl : (Instr.lookup 102 (.map (some B)) (.int .i64 3) true).run Try.prog w1 = .ok (.tuple #[.iface 118 (.agg #[]), .bool true]) w1 := hl0 3 (by unfold In64; omega)
  have HR : Hid (pb (FitsOk x 3 v) = pb (FitsAs x 3 v)) := pb_same ⟨fun h => h.2, fun h => ⟨hok, h⟩⟩
  have HR2 : Hid (pb (FitsAs x 3 v) = _) := pb_same HE
  clear hl0 hb1 hb0 HB0 HB1 hok HE
  go_wp2_with fail
  refine (fitsLevel v _ (Nat.le_trans hv (by unfold maxLen; omega))).mono ?_
  rintro e w4 ⟨rfl, hb4⟩
  have hB4 := hB1.trans (hb4.mono hB1.size)
  clear hb4 hl
  go_wp2
  go_ret
  exact ⟨by rw [HR.out, HR2.out]; rfl, hB4⟩

set_option maxRecDepth 100000 in
set_option maxHeartbeats 2000000 in
theorem iVal4 (x : DPlanBase) (ao0 : Option Addr) (cap0 : Nat) (ao1 : Option Addr) (cap1 : Nat) (v : ByteArray) (w : World) (h : BaseAt w x ao0 cap0 ao1 cap1) (hok : BaseOk x) (hv : v.size ≤ 1048576) :
    Calls Try.prog 37 #[.agg #[.slice ao0 x.1.length cap0, .slice ao1 x.2.length cap1], .int .i64 4, .string v] w fun e w' => e = .returned (.bool (pb (FitsOk x 4 v))) ∧ Below w.heap.size w w' := by
  have hm := methFitsRoute
  have HE := fits4 x v
  have hb0 : Below w.heap.size w (w.alloc (.cells #[.slice ao0 x.1.length cap0, .slice ao1 x.2.length cap1] 34)) := (Below.refl _ _).alloc (Nat.le_refl _) _
  have HB0 := BxC.new w #[.slice ao0 x.1.length cap0, .slice ao1 x.2.length cap1] 34
  go_enter Try.func37, Try.ntmps37
  go_wp2_with fail
  refine (Psd.said_any ao0 ao1 x.1.length x.2.length cap0 cap1 _).mono ?_
  rintro e w1 ⟨B, rfl, hl0, hb1⟩
  have HB1 := HB0.below hb1 (by simp)
  have hB1 := hb0.trans (hb1.mono hb0.size)
  have hz1 : w.heap.size < w1.heap.size := by have := hb1.size; simp at this; omega
  have hl : (Instr.lookup 102 (.map (some B)) (.int .i64 4) true).run Try.prog w1 = .ok (.tuple #[.iface 120 (.agg #[.slice ao1 x.2.length cap1]), .bool true]) w1 := hl0 4 (by unfold In64; omega)
  have HR : Hid (pb (FitsOk x 4 v) = pb (FitsAs x 4 v)) := pb_same ⟨fun h => h.2, fun h => ⟨hok, h⟩⟩
  have HR2 : Hid (pb (FitsAs x 4 v) = _) := pb_same HE
  clear hl0 hb1 hb0 HB0 HB1 hok HE
  go_wp2_with fail
  refine (fitsRoute ao1 cap1 x.2 v _ (h.later hB1).p1 hv).mono ?_
  rintro e w4 ⟨rfl, hb4⟩
  have hB4 := hB1.trans (hb4.mono hB1.size)
  clear hb4 hl
  go_wp2
  go_ret
  exact ⟨by rw [HR.out, HR2.out]; rfl, hB4⟩

set_option maxRecDepth 100000 in
set_option maxHeartbeats 2000000 in
theorem iVal5 (x : DPlanBase) (ao0 : Option Addr) (cap0 : Nat) (ao1 : Option Addr) (cap1 : Nat) (v : ByteArray) (w : World) (h : BaseAt w x ao0 cap0 ao1 cap1) (hok : BaseOk x) (hv : v.size ≤ 1048576) :
    Calls Try.prog 37 #[.agg #[.slice ao0 x.1.length cap0, .slice ao1 x.2.length cap1], .int .i64 5, .string v] w fun e w' => e = .returned (.bool (pb (FitsOk x 5 v))) ∧ Below w.heap.size w w' := by
  have hm := methFitsState
  have HE := fits5 x v
  have hb0 : Below w.heap.size w (w.alloc (.cells #[.slice ao0 x.1.length cap0, .slice ao1 x.2.length cap1] 34)) := (Below.refl _ _).alloc (Nat.le_refl _) _
  have HB0 := BxC.new w #[.slice ao0 x.1.length cap0, .slice ao1 x.2.length cap1] 34
  go_enter Try.func37, Try.ntmps37
  go_wp2_with fail
  refine (Psd.said_any ao0 ao1 x.1.length x.2.length cap0 cap1 _).mono ?_
  rintro e w1 ⟨B, rfl, hl0, hb1⟩
  have HB1 := HB0.below hb1 (by simp)
  have hB1 := hb0.trans (hb1.mono hb0.size)
  have hz1 : w.heap.size < w1.heap.size := by have := hb1.size; simp at this; omega
  have hl : (Instr.lookup 102 (.map (some B)) (.int .i64 5) true).run Try.prog w1 = .ok (.tuple #[.iface 121 (.agg #[]), .bool true]) w1 := hl0 5 (by unfold In64; omega)
  have HR : Hid (pb (FitsOk x 5 v) = pb (FitsAs x 5 v)) := pb_same ⟨fun h => h.2, fun h => ⟨hok, h⟩⟩
  have HR2 : Hid (pb (FitsAs x 5 v) = _) := pb_same HE
  clear hl0 hb1 hb0 HB0 HB1 hok HE
  go_wp2_with fail
  refine (fitsState v _).mono ?_
  rintro e w4 ⟨rfl, hb4⟩
  have hB4 := hB1.trans (hb4.mono hB1.size)
  clear hb4 hl
  go_wp2
  go_ret
  exact ⟨by rw [HR.out, HR2.out]; rfl, hB4⟩

set_option maxRecDepth 100000 in
set_option maxHeartbeats 2000000 in
theorem iValNo (x : DPlanBase) (ao0 : Option Addr) (cap0 : Nat) (ao1 : Option Addr) (cap1 : Nat) (what : Int) (v : ByteArray) (w : World) (hw : In64 what) (hno : ¬ (1 ≤ what ∧ what ≤ 5)) :
    Calls Try.prog 37 #[.agg #[.slice ao0 x.1.length cap0, .slice ao1 x.2.length cap1], .int .i64 what, .string v] w fun e w' => e = .returned (.bool (pb (FitsOk x what v))) ∧ Below w.heap.size w w' := by
  have HR : Hid (pb (FitsOk x what v) = false) := pb_no (fun h => fits_no x what v hno h.2)
  have hb0 : Below w.heap.size w (w.alloc (.cells #[.slice ao0 x.1.length cap0, .slice ao1 x.2.length cap1] 34)) := (Below.refl _ _).alloc (Nat.le_refl _) _
  have HB0 := BxC.new w #[.slice ao0 x.1.length cap0, .slice ao1 x.2.length cap1] 34
  go_enter Try.func37, Try.ntmps37
  go_wp2_with fail
  refine (Psd.said_any ao0 ao1 x.1.length x.2.length cap0 cap1 _).mono ?_
  rintro e w1 ⟨B, rfl, hl0, hb1⟩
  have HB1 := HB0.below hb1 (by simp)
  have hB1 := hb0.trans (hb1.mono hb0.size)
  have hz1 : w.heap.size < w1.heap.size := by have := hb1.size; simp at this; omega
  have hl := hl0 what hw
  have hd : decide (1 ≤ what ∧ what ≤ 5) = false := by simp; omega
  rw [hd] at hl
  generalize Psd.saidV (.slice ao0 x.1.length cap0) (.slice ao1 x.2.length cap1) what = sv at hl
  clear hl0 hb1 hb0 HB0 hd hno
  go_wp2
  go_ret
  exact ⟨by rw [HR.out]; rfl, hB1⟩

theorem iVal (x : DPlanBase) (ao0 : Option Addr) (cap0 : Nat) (ao1 : Option Addr) (cap1 : Nat) (what : Int) (v : ByteArray) (w : World) (h : BaseAt w x ao0 cap0 ao1 cap1) (hok : BaseOk x) (hw : In64 what) (hv : v.size ≤ 1048576) :
    Calls Try.prog 37 #[.agg #[.slice ao0 x.1.length cap0, .slice ao1 x.2.length cap1], .int .i64 what, .string v] w fun e w' => e = .returned (.bool (pb (FitsOk x what v))) ∧ Below w.heap.size w w' := by
  by_cases hr : 1 ≤ what ∧ what ≤ 5
  · obtain rfl | rfl | rfl | rfl | rfl : what = 1 ∨ what = 2 ∨ what = 3 ∨ what = 4 ∨ what = 5 := by omega
    · exact iVal1 x ao0 cap0 ao1 cap1 v w h hok hv
    · exact iVal2 x ao0 cap0 ao1 cap1 v w h hok hv
    · exact iVal3 x ao0 cap0 ao1 cap1 v w h hok hv
    · exact iVal4 x ao0 cap0 ao1 cap1 v w h hok hv
    · exact iVal5 x ao0 cap0 ao1 cap1 v w h hok hv
  · exact iValNo x ao0 cap0 ao1 cap1 what v w hw hr

set_option maxRecDepth 100000 in
set_option maxHeartbeats 2000000 in
theorem iFits (x : DPlanBase) (ao0 : Option Addr) (cap0 : Nat) (ao1 : Option Addr) (cap1 : Nat) (what : Int) (v : ByteArray) (w : World) (h : BaseAt w x ao0 cap0 ao1 cap1) (hw : In64 what) (hv : v.size ≤ 1048576) :
    Calls Try.prog 14 #[.agg #[.slice ao0 x.1.length cap0, .slice ao1 x.2.length cap1], .int .i64 what, .string v] w fun e w' => e = .returned (.bool (pb (FitsOk x what v))) ∧ Below w.heap.size w w' := by
  have hb0 : Below w.heap.size w (w.alloc (.cells #[.slice ao0 x.1.length cap0, .slice ao1 x.2.length cap1] 34)) := (Below.refl _ _).alloc (Nat.le_refl _) _
  have HB0 := BxC.new w #[.slice ao0 x.1.length cap0, .slice ao1 x.2.length cap1] 34
  go_enter Try.func14, Try.ntmps14
  go_wp2_with fail
  refine (iBase x ao0 cap0 ao1 cap1 _ (h.later hb0).p0 (h.later hb0).p1).mono ?_
  rintro e w1 ⟨rfl, hb1⟩
  have HB1 := HB0.below hb1 (by simp)
  have hB1 := hb0.trans (hb1.mono hb0.size)
  have hz1 : w.heap.size < w1.heap.size := by have := hb1.size; simp at this; omega
  have x0 := HB1 0
  have x1 := HB1 1
  simp at x0 x1
  clear hb1 hb0 HB0 HB1
  by_cases hok : BaseOk x
  · rw [pb_yes hok]
    go_wp2_with fail
    refine (iVal x ao0 cap0 ao1 cap1 what v _ (h.later hB1) hok hw hv).mono ?_
    rintro e w4 ⟨rfl, hb4⟩
    have hB4 := hB1.trans (hb4.mono hB1.size)
    clear hb4 hok
    go_wp2
    go_ret
    exact ⟨rfl, hB4⟩
  · rw [pb_no hok]
    have HR : Hid (pb (FitsOk x what v) = false) := pb_no (fun h => hok h.1)
    clear hok
    go_wp2
    go_ret
    exact ⟨by rw [HR.out]; rfl, hB1⟩

end Go.Proofs.Ythhjbapdcpibmaa
