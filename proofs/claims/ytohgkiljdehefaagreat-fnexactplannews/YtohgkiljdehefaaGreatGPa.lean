/- DERIVED. impl.planValueOf, impl.planValueFits, impl.planSaysOk: their walks (written by wip/tools/mk_pg3.py). -/
import Derived.Test.YtohgkiljdehefaaGreatGXe
import Derived.Test.YtohgkiljdehefaaGreatPfI2
import Derived.Test.YtohgkiljdehefaaGreatGXf
import Derived.Test.YtohgkiljdehefaaGreatPlL0
import Derived.Test.YtohgkiljdehefaaGreatBkD
namespace Go.Proofs.YtohgkiljdehefaaGreat
open Go.RowKit
set_option linter.unusedSimpArgs false
set_option linter.unusedVariables false

theorem methReadKind (a : Value) (w : World) : (method (290 + 1) 154 (.agg #[a]) "loop.example/lapwing/impl.read").run Tryz.prog w = .ok (113, .agg #[a]) w := by kernel_rfl
theorem methReadTime (w : World) : (method (290 + 1) 156 (.agg #[]) "loop.example/lapwing/impl.read").run Tryz.prog w = .ok (115, .agg #[]) w := by kernel_rfl
theorem methReadLevel (w : World) : (method (290 + 1) 157 (.agg #[]) "loop.example/lapwing/impl.read").run Tryz.prog w = .ok (118, .agg #[]) w := by kernel_rfl
theorem methReadRoute (a : Value) (w : World) : (method (290 + 1) 159 (.agg #[a]) "loop.example/lapwing/impl.read").run Tryz.prog w = .ok (119, .agg #[a]) w := by kernel_rfl
theorem methReadState (w : World) : (method (290 + 1) 160 (.agg #[]) "loop.example/lapwing/impl.read").run Tryz.prog w = .ok (123, .agg #[]) w := by kernel_rfl

/-- What a value says, if it fits. -/
structure SaysV (x : DPlanBase) (what : Int) (v : ByteArray) (B : Nat) (w' : World) (va : Value) : Prop where
  k : what = 1 → va = .iface 109 (.agg #[.string (findD nmK zK x.1 v).1, .int .i64 (findD nmK zK x.1 v).2.1, .int .i64 (findD nmK zK x.1 v).2.2])
  t : what = 2 → ∀ a b, wordsP v = [a, b] → va = .iface 182 (.agg #[.int .i64 (decZ a), .int .i64 (decZ b)])
  l : what = 3 → va = .iface 183 (.int .i64 (decZ v))
  r : what = 4 → RouteOk x.2 (wordsP v) → ∃ aw capw, va = .iface 185 (.slice aw (wordsP v).length capw) ∧ w'.ownsRow B 9 1 (.slice aw (wordsP v).length capw) (wordsP v).length (strB (wordsP v))
  s : what = 5 → va = .iface 189 (.string v)
/-- What a call of planValueOf leaves. -/
def GivesV (x : DPlanBase) (what : Int) (v : ByteArray) (w : World) (e : Ending) (w' : World) : Prop :=
  ∃ va, e = .returned (.tuple #[va, .bool (pb (FitsAs x what v))]) ∧ SaysV x what v w.heap.size w' va ∧ Below w.heap.size w w'
theorem own_lo2 {W : World} {b b' : Nat} {e : TypeId} {size k : Nat} {v : Value} {xs : List Value} (h : W.ownsRow b e size v k xs) (hb : b' < b) : W.ownsRow b' e size v k xs := by
  refine ⟨h.1, ?_⟩
  rcases h.2 with h1 | ⟨g, cap, cur, h1, h2, h3⟩
  · exact .inl h1
  · exact .inr ⟨g, cap, cur, h1, by omega, h3⟩

set_option maxRecDepth 100000 in
set_option maxHeartbeats 2000000 in
theorem iOf1 (x : DPlanBase) (ao0 : Option Addr) (cap0 : Nat) (ao1 : Option Addr) (cap1 : Nat) (v : ByteArray) (w : World) (h : BaseAt w x ao0 cap0 ao1 cap1) (hv : v.size ≤ 1048576) :
    Calls Tryz.prog 91 #[.agg #[.slice ao0 x.1.length cap0, .slice ao1 x.2.length cap1], .int .i64 1, .string v] w (GivesV x 1 v w) := by
  have hm := methReadKind
  have HE := fits1 x v
  have hb0 : Below w.heap.size w (w.alloc (.cells #[.slice ao0 x.1.length cap0, .slice ao1 x.2.length cap1] 35)) := (Below.refl _ _).alloc (Nat.le_refl _) _
  have HB0 := BxC.new w #[.slice ao0 x.1.length cap0, .slice ao1 x.2.length cap1] 35
  unfold GivesV
  go_enter Tryz.func91, Tryz.ntmps91
  go_wp2_with fail
  refine (Psd.said_any ao0 ao1 x.1.length x.2.length cap0 cap1 _).mono ?_
  rintro e w1 ⟨B, rfl, hl0, hb1⟩
  have HB1 := HB0.below hb1 (by simp)
  have hB1 := hb0.trans (hb1.mono hb0.size)
  have hz1 : w.heap.size < w1.heap.size := by have := hb1.size; simp at this; omega
  have hl : (Instr.lookup 150 (.map (some B)) (.int .i64 1) true).run Tryz.prog w1 = .ok (.tuple #[.iface 154 (.agg #[.slice ao0 x.1.length cap0]), .bool true]) w1 := hl0 1 (by unfold In64; omega)
  have HR : Hid (pb (FitsAs x 1 v) = _) := pb_same HE
  clear hl0 hb1 hb0 HB0 HB1 HE
  go_wp2_with fail
  refine (readKind ao0 cap0 x.1 v _ (h.later hB1).p0).mono ?_
  rintro e w4 ⟨rfl, hb4⟩
  have hB4 := hB1.trans (hb4.mono hB1.size)
  clear hb4 hl
  go_wp2
  refine bodyPost_ret (v := .tuple #[.iface 109 (.agg #[.string (findD nmK zK x.1 v).1, .int .i64 (findD nmK zK x.1 v).2.1, .int .i64 (findD nmK zK x.1 v).2.2]), .bool (pb (HasNm nmK x.1 v))]) (by simp [results, Tryz.results91, go_sem]) rfl ?_
  exact ⟨_, by rw [HR.out], ⟨fun _ => rfl, fun h => absurd h (by decide), fun h => absurd h (by decide), fun h => absurd h (by decide), fun h => absurd h (by decide)⟩, hB4⟩

set_option maxRecDepth 100000 in
set_option maxHeartbeats 2000000 in
theorem iOf2 (x : DPlanBase) (ao0 : Option Addr) (cap0 : Nat) (ao1 : Option Addr) (cap1 : Nat) (v : ByteArray) (w : World) (h : BaseAt w x ao0 cap0 ao1 cap1) (hv : v.size ≤ 1048576) :
    Calls Tryz.prog 91 #[.agg #[.slice ao0 x.1.length cap0, .slice ao1 x.2.length cap1], .int .i64 2, .string v] w (GivesV x 2 v w) := by
  have hm := methReadTime
  have HE := fits2 x v
  have hb0 : Below w.heap.size w (w.alloc (.cells #[.slice ao0 x.1.length cap0, .slice ao1 x.2.length cap1] 35)) := (Below.refl _ _).alloc (Nat.le_refl _) _
  have HB0 := BxC.new w #[.slice ao0 x.1.length cap0, .slice ao1 x.2.length cap1] 35
  unfold GivesV
  go_enter Tryz.func91, Tryz.ntmps91
  go_wp2_with fail
  refine (Psd.said_any ao0 ao1 x.1.length x.2.length cap0 cap1 _).mono ?_
  rintro e w1 ⟨B, rfl, hl0, hb1⟩
  have HB1 := HB0.below hb1 (by simp)
  have hB1 := hb0.trans (hb1.mono hb0.size)
  have hz1 : w.heap.size < w1.heap.size := by have := hb1.size; simp at this; omega
  have hl : (Instr.lookup 150 (.map (some B)) (.int .i64 2) true).run Tryz.prog w1 = .ok (.tuple #[.iface 156 (.agg #[]), .bool true]) w1 := hl0 2 (by unfold In64; omega)
  have HR : Hid (pb (FitsAs x 2 v) = _) := pb_same HE
  clear hl0 hb1 hb0 HB0 HB1 HE
  go_wp2_with fail
  refine (readTime v _ hv).mono ?_
  rintro e w4 ⟨va, rfl, hS, hb4⟩
  have hB4 := hB1.trans (hb4.mono hB1.size)
  clear hb4 hl
  go_wp2
  refine bodyPost_ret (v := .tuple #[va, .bool (pb (TimeOk (wordsP v)))]) (by simp [results, Tryz.results91, go_sem]) rfl ?_
  exact ⟨_, by rw [HR.out], ⟨fun h => absurd h (by decide), fun _ => hS, fun h => absurd h (by decide), fun h => absurd h (by decide), fun h => absurd h (by decide)⟩, hB4⟩

set_option maxRecDepth 100000 in
set_option maxHeartbeats 2000000 in
theorem iOf3 (x : DPlanBase) (ao0 : Option Addr) (cap0 : Nat) (ao1 : Option Addr) (cap1 : Nat) (v : ByteArray) (w : World) (h : BaseAt w x ao0 cap0 ao1 cap1) (hv : v.size ≤ 1048576) :
    Calls Tryz.prog 91 #[.agg #[.slice ao0 x.1.length cap0, .slice ao1 x.2.length cap1], .int .i64 3, .string v] w (GivesV x 3 v w) := by
  have hm := methReadLevel
  have HE := fits3 x v
  have hb0 : Below w.heap.size w (w.alloc (.cells #[.slice ao0 x.1.length cap0, .slice ao1 x.2.length cap1] 35)) := (Below.refl _ _).alloc (Nat.le_refl _) _
  have HB0 := BxC.new w #[.slice ao0 x.1.length cap0, .slice ao1 x.2.length cap1] 35
  unfold GivesV
  go_enter Tryz.func91, Tryz.ntmps91
  go_wp2_with fail
  refine (Psd.said_any ao0 ao1 x.1.length x.2.length cap0 cap1 _).mono ?_
  rintro e w1 ⟨B, rfl, hl0, hb1⟩
  have HB1 := HB0.below hb1 (by simp)
  have hB1 := hb0.trans (hb1.mono hb0.size)
  have hz1 : w.heap.size < w1.heap.size := by have := hb1.size; simp at this; omega
  have hl : (Instr.lookup 150 (.map (some B)) (.int .i64 3) true).run Tryz.prog w1 = .ok (.tuple #[.iface 157 (.agg #[]), .bool true]) w1 := hl0 3 (by unfold In64; omega)
  have HR : Hid (pb (FitsAs x 3 v) = _) := pb_same HE
  clear hl0 hb1 hb0 HB0 HB1 HE
  go_wp2_with fail
  refine (readLevel v _ (Nat.le_trans hv (by unfold maxLen; omega))).mono ?_
  rintro e w4 ⟨rfl, hb4⟩
  have hB4 := hB1.trans (hb4.mono hB1.size)
  clear hb4 hl
  go_wp2
  refine bodyPost_ret (v := .tuple #[.iface 183 (.int .i64 (decZ v)), .bool (pb (LevelOk v))]) (by simp [results, Tryz.results91, go_sem]) rfl ?_
  exact ⟨_, by rw [HR.out], ⟨fun h => absurd h (by decide), fun h => absurd h (by decide), fun _ => rfl, fun h => absurd h (by decide), fun h => absurd h (by decide)⟩, hB4⟩

set_option maxRecDepth 100000 in
set_option maxHeartbeats 2000000 in
theorem iOf4 (x : DPlanBase) (ao0 : Option Addr) (cap0 : Nat) (ao1 : Option Addr) (cap1 : Nat) (v : ByteArray) (w : World) (h : BaseAt w x ao0 cap0 ao1 cap1) (hv : v.size ≤ 1048576) :
    Calls Tryz.prog 91 #[.agg #[.slice ao0 x.1.length cap0, .slice ao1 x.2.length cap1], .int .i64 4, .string v] w (GivesV x 4 v w) := by
  have hm := methReadRoute
  have HE := fits4 x v
  have hb0 : Below w.heap.size w (w.alloc (.cells #[.slice ao0 x.1.length cap0, .slice ao1 x.2.length cap1] 35)) := (Below.refl _ _).alloc (Nat.le_refl _) _
  have HB0 := BxC.new w #[.slice ao0 x.1.length cap0, .slice ao1 x.2.length cap1] 35
  unfold GivesV
  go_enter Tryz.func91, Tryz.ntmps91
  go_wp2_with fail
  refine (Psd.said_any ao0 ao1 x.1.length x.2.length cap0 cap1 _).mono ?_
  rintro e w1 ⟨B, rfl, hl0, hb1⟩
  have HB1 := HB0.below hb1 (by simp)
  have hB1 := hb0.trans (hb1.mono hb0.size)
  have hz1 : w.heap.size < w1.heap.size := by have := hb1.size; simp at this; omega
  have hl : (Instr.lookup 150 (.map (some B)) (.int .i64 4) true).run Tryz.prog w1 = .ok (.tuple #[.iface 159 (.agg #[.slice ao1 x.2.length cap1]), .bool true]) w1 := hl0 4 (by unfold In64; omega)
  have HR : Hid (pb (FitsAs x 4 v) = _) := pb_same HE
  clear hl0 hb1 hb0 HB0 HB1 HE
  go_wp2_with fail
  refine (readRoute ao1 cap1 x.2 v _ (h.later hB1).p1 hv).mono ?_
  rintro e w4 ⟨va, rfl, hS, hb4⟩
  have hB4 := hB1.trans (hb4.mono hB1.size)
  have hS : Hid _ := hS
  clear hb4 hl
  go_wp2
  refine bodyPost_ret (v := .tuple #[va, .bool (pb (RouteOk x.2 (wordsP v)))]) (by simp [results, Tryz.results91, go_sem]) rfl ?_
  exact ⟨_, by rw [HR.out], ⟨fun h => absurd h (by decide), fun h => absurd h (by decide), fun h => absurd h (by decide), fun _ hr => by
      obtain ⟨aw, capw, e1, e2⟩ := hS.out hr
      exact ⟨aw, capw, e1, own_lo2 e2 hz1⟩, fun h => absurd h (by decide)⟩, hB4⟩

set_option maxRecDepth 100000 in
set_option maxHeartbeats 2000000 in
theorem iOf5 (x : DPlanBase) (ao0 : Option Addr) (cap0 : Nat) (ao1 : Option Addr) (cap1 : Nat) (v : ByteArray) (w : World) (h : BaseAt w x ao0 cap0 ao1 cap1) (hv : v.size ≤ 1048576) :
    Calls Tryz.prog 91 #[.agg #[.slice ao0 x.1.length cap0, .slice ao1 x.2.length cap1], .int .i64 5, .string v] w (GivesV x 5 v w) := by
  have hm := methReadState
  have HE := fits5 x v
  have hb0 : Below w.heap.size w (w.alloc (.cells #[.slice ao0 x.1.length cap0, .slice ao1 x.2.length cap1] 35)) := (Below.refl _ _).alloc (Nat.le_refl _) _
  have HB0 := BxC.new w #[.slice ao0 x.1.length cap0, .slice ao1 x.2.length cap1] 35
  unfold GivesV
  go_enter Tryz.func91, Tryz.ntmps91
  go_wp2_with fail
  refine (Psd.said_any ao0 ao1 x.1.length x.2.length cap0 cap1 _).mono ?_
  rintro e w1 ⟨B, rfl, hl0, hb1⟩
  have HB1 := HB0.below hb1 (by simp)
  have hB1 := hb0.trans (hb1.mono hb0.size)
  have hz1 : w.heap.size < w1.heap.size := by have := hb1.size; simp at this; omega
  have hl : (Instr.lookup 150 (.map (some B)) (.int .i64 5) true).run Tryz.prog w1 = .ok (.tuple #[.iface 160 (.agg #[]), .bool true]) w1 := hl0 5 (by unfold In64; omega)
  have HR : Hid (pb (FitsAs x 5 v) = _) := pb_same HE
  clear hl0 hb1 hb0 HB0 HB1 HE
  go_wp2_with fail
  refine (readState v _).mono ?_
  rintro e w4 ⟨rfl, hb4⟩
  have hB4 := hB1.trans (hb4.mono hB1.size)
  clear hb4 hl
  go_wp2
  refine bodyPost_ret (v := .tuple #[.iface 189 (.string v), .bool (pb (StateOk v))]) (by simp [results, Tryz.results91, go_sem]) rfl ?_
  exact ⟨_, by rw [HR.out], ⟨fun h => absurd h (by decide), fun h => absurd h (by decide), fun h => absurd h (by decide), fun h => absurd h (by decide), fun _ => rfl⟩, hB4⟩

set_option maxRecDepth 100000 in
set_option maxHeartbeats 2000000 in
theorem iOfNo (x : DPlanBase) (ao0 : Option Addr) (cap0 : Nat) (ao1 : Option Addr) (cap1 : Nat) (what : Int) (v : ByteArray) (w : World) (hw : In64 what) (hno : ¬ (1 ≤ what ∧ what ≤ 5)) :
    Calls Tryz.prog 91 #[.agg #[.slice ao0 x.1.length cap0, .slice ao1 x.2.length cap1], .int .i64 what, .string v] w (GivesV x what v w) := by
  have HR : Hid (pb (FitsAs x what v) = false) := pb_no (fun h => fits_no x what v hno h)
  have HS : Hid (∀ W, SaysV x what v w.heap.size W .nilIface) := fun W => ⟨fun h => absurd h (by omega), fun h => absurd h (by omega), fun h => absurd h (by omega), fun h => absurd h (by omega), fun h => absurd h (by omega)⟩
  have hb0 : Below w.heap.size w (w.alloc (.cells #[.slice ao0 x.1.length cap0, .slice ao1 x.2.length cap1] 35)) := (Below.refl _ _).alloc (Nat.le_refl _) _
  unfold GivesV
  go_enter Tryz.func91, Tryz.ntmps91
  go_wp2_with fail
  refine (Psd.said_any ao0 ao1 x.1.length x.2.length cap0 cap1 _).mono ?_
  rintro e w1 ⟨B, rfl, hl0, hb1⟩
  have hB1 := hb0.trans (hb1.mono hb0.size)
  have hl := hl0 what hw
  have hd : decide (1 ≤ what ∧ what ≤ 5) = false := by simp; omega
  rw [hd] at hl
  generalize Psd.saidV (.slice ao0 x.1.length cap0) (.slice ao1 x.2.length cap1) what = sv at hl
  clear hl0 hb1 hb0 hd hno
  go_wp2
  refine bodyPost_ret (v := .tuple #[.nilIface, .bool false]) (by simp [results, Tryz.results91, go_sem]) rfl ?_
  exact ⟨_, by rw [HR.out], HS.out _, hB1⟩

theorem iOf (x : DPlanBase) (ao0 : Option Addr) (cap0 : Nat) (ao1 : Option Addr) (cap1 : Nat) (what : Int) (v : ByteArray) (w : World) (h : BaseAt w x ao0 cap0 ao1 cap1) (hw : In64 what) (hv : v.size ≤ 1048576) :
    Calls Tryz.prog 91 #[.agg #[.slice ao0 x.1.length cap0, .slice ao1 x.2.length cap1], .int .i64 what, .string v] w (GivesV x what v w) := by
  by_cases hr : 1 ≤ what ∧ what ≤ 5
  · obtain rfl | rfl | rfl | rfl | rfl : what = 1 ∨ what = 2 ∨ what = 3 ∨ what = 4 ∨ what = 5 := by omega
    · exact iOf1 x ao0 cap0 ao1 cap1 v w h hv
    · exact iOf2 x ao0 cap0 ao1 cap1 v w h hv
    · exact iOf3 x ao0 cap0 ao1 cap1 v w h hv
    · exact iOf4 x ao0 cap0 ao1 cap1 v w h hv
    · exact iOf5 x ao0 cap0 ao1 cap1 v w h hv
  · exact iOfNo x ao0 cap0 ao1 cap1 what v w hw hr

set_option maxRecDepth 100000 in
set_option maxHeartbeats 2000000 in
theorem iVal (x : DPlanBase) (ao0 : Option Addr) (cap0 : Nat) (ao1 : Option Addr) (cap1 : Nat) (what : Int) (v : ByteArray) (w : World) (h : BaseAt w x ao0 cap0 ao1 cap1) (hok : BaseOk x) (hw : In64 what) (hv : v.size ≤ 1048576) :
    Calls Tryz.prog 83 #[.agg #[.slice ao0 x.1.length cap0, .slice ao1 x.2.length cap1], .int .i64 what, .string v] w fun e w' => e = .returned (.bool (pb (FitsOk x what v))) ∧ Below w.heap.size w w' := by
  have HR : pb (FitsOk x what v) = pb (FitsAs x what v) := pb_same ⟨fun h => h.2, fun h => ⟨hok, h⟩⟩
  rw [HR]
  have hb0 : Below w.heap.size w (w.alloc (.cells #[.slice ao0 x.1.length cap0, .slice ao1 x.2.length cap1] 35)) := (Below.refl _ _).alloc (Nat.le_refl _) _
  have HO := iOf x ao0 cap0 ao1 cap1 what v _ (h.later hb0) hw hv
  unfold GivesV at HO
  generalize pb (FitsAs x what v) = bv at *
  clear HR hok
  go_enter Tryz.func83, Tryz.ntmps83
  go_wp2_with fail
  refine HO.mono ?_
  rintro e w1 ⟨va, rfl, _, hb1⟩
  go_wp2
  go_ret
  exact ⟨rfl, hb0.trans (hb1.mono hb0.size)⟩

set_option maxRecDepth 100000 in
set_option maxHeartbeats 2000000 in
theorem iSays (x : DPlanBase) (ao0 : Option Addr) (cap0 : Nat) (ao1 : Option Addr) (cap1 : Nat) (c : DChange) (w : World) (h : BaseAt w x ao0 cap0 ao1 cap1) (hok : BaseOk x) (h1 : c.1.size ≤ maxLen) (h2 : In64 c.2.1) (h4 : c.2.2.2.size ≤ 1048576) :
    Calls Tryz.prog 68 #[.agg #[.slice ao0 x.1.length cap0, .slice ao1 x.2.length cap1], .agg #[.string c.1, .int .i64 c.2.1, .int .i64 c.2.2.1, .string c.2.2.2]] w fun e w' => e = .returned (.bool (pb (ChangeOk x c))) ∧ Below w.heap.size w w' := by
  obtain ⟨f, wh, n, v⟩ := c
  simp only at *
  have hb0 : Below w.heap.size w ((w.alloc (.cells #[.slice ao0 x.1.length cap0, .slice ao1 x.2.length cap1] 35)).alloc (.cells #[.string f, .int .i64 wh, .int .i64 n, .string v] 55)) := ((Below.refl _ _).alloc (Nat.le_refl _) _).alloc (by simp) _
  have HB0 : BxC w.heap.size #[.slice ao0 x.1.length cap0, .slice ao1 x.2.length cap1] ((w.alloc (.cells #[.slice ao0 x.1.length cap0, .slice ao1 x.2.length cap1] 35)).alloc (.cells #[.string f, .int .i64 wh, .int .i64 n, .string v] 55)) := (BxC.new w _ _).below ((Below.refl (w.heap.size + 1) _).alloc (by simp) _) (by omega)
  have HC0 := BxC.new (w.alloc (.cells #[.slice ao0 x.1.length cap0, .slice ao1 x.2.length cap1] 35)) #[.string f, .int .i64 wh, .int .i64 n, .string v] 55
  rw [World.size_alloc] at HC0
  have HFN := iName f
  have HFF := fun W hW => iVal x ao0 cap0 ao1 cap1 wh v W hW hok h2 h4
  clear hok
  go_enter Tryz.func68, Tryz.ntmps68
  go_wp2_with fail
  refine (HFN _ h1).mono ?_
  rintro e w1 ⟨rfl, hb1⟩
  have hB1 := hb0.trans (hb1.mono hb0.size)
  have HB1 := HB0.below hb1 (by simp; omega)
  have HC1 := HC0.below hb1 (by simp)
  have hz1 : w.heap.size + 1 < w1.heap.size := by have := hb1.size; simp at this; omega
  have hz1' : w.heap.size < w1.heap.size := by omega
  have x0 := HB1 0
  have x1 := HB1 1
  have y1 := HC1 1
  have y2 := HC1 2
  have y3 := HC1 3
  simp at x0 x1 y1 y2 y3
  clear hb1 hb0 HB0 HC0 HB1 HC1 HFN
  by_cases g1 : NameOk f
  · rw [pb_yes g1]
    by_cases g2 : InR n 1 1000000
    · have HR : Hid (pb (ChangeOk x (f, wh, n, v)) = pb (FitsOk x wh v)) := pb_same ⟨fun h => h.2.2, fun h => ⟨g1, g2, h⟩⟩
      go_wp2_with (first | (go_at_call 82; refine (from_yes _ _ _ _ g2).mono ?_; rintro e w' ⟨rfl, hwq⟩; try subst hwq) | (go_at_call 83; refine (HFF _ (h.later hB1)).mono ?_; rintro e w2 ⟨rfl, hb2⟩))
      go_ret
      exact ⟨by rw [HR.out]; rfl, hB1.trans (hb2.mono hB1.size)⟩
    · have HR : Hid (pb (ChangeOk x (f, wh, n, v)) = false) := pb_no (fun h => g2 h.2.1)
      go_wp2_with (go_at_call 82; refine (from_no _ _ _ _ g2).mono ?_; rintro e w' ⟨rfl, hwq⟩; try subst hwq)
      go_ret
      exact ⟨by rw [HR.out]; rfl, hB1⟩
  · rw [pb_no g1]
    have HR : Hid (pb (ChangeOk x (f, wh, n, v)) = false) := pb_no (fun h => g1 h.1)
    go_wp2_with fail
    go_ret
    exact ⟨by rw [HR.out]; rfl, hB1⟩

end Go.Proofs.YtohgkiljdehefaaGreat

/- DERIVED. impl.PlanEntry.change, impl.planEntryOk: its walk (written by wip/tools/mk_bi.py). -/
namespace Go.Proofs.YtohgkiljdehefaaGreat
open Go.RowKit Go.Sort
set_option linter.unusedSimpArgs false
set_option linter.unusedVariables false

theorem EntOk.of (x : DPlanBase) (n : ByteArray) (fs : List DPlanField) (h0 : 0 < fs.length) (h : FldTo x n fs fs.length) : EntOk x (n, fs) := ⟨(h 0 h0 h0).1.1, h0, h⟩

set_option maxRecDepth 100000 in
set_option maxHeartbeats 2000000 in
theorem eChange (n : ByteArray) (s : Value) (wh nu : Int) (v : ByteArray) (w : World) :
    Calls Tryz.prog 45 #[.agg #[.string n, s], .agg #[.int .i64 wh, .int .i64 nu, .string v]] w fun r w' => r = .returned (.agg #[.string n, .int .i64 wh, .int .i64 nu, .string v]) ∧ Below w.heap.size w w' := by
  go_enter Tryz.func45, Tryz.ntmps45
  go_wp2
  exact bodyPost_ret (v := .agg #[.string n, .int .i64 wh, .int .i64 nu, .string v]) (by simp [results, Tryz.results45, go_sem]) rfl ⟨rfl, by repeat (first | exact Below.refl _ _ | refine Below.alloc ?_ (by simp; try omega) _)⟩

set_option maxRecDepth 100000 in
set_option maxHeartbeats 8000000 in
theorem iEntry (x : DPlanBase) (ao0 : Option Addr) (cap0 : Nat) (ao1 : Option Addr) (cap1 : Nat) (e : DPlanEntry) (fo : Option Addr) (fc : Nat) (w : World) (h : BaseAt w x ao0 cap0 ao1 cap1) (hx : BaseOk x) (hn : e.1.size ≤ maxLen) (hf : SliceAt vPlanField (old w) w fo fc e.2) (hs : wPlanFieldS e.2 ≤ 1048576) :
    Calls Tryz.prog 41 #[.agg #[.slice ao0 x.1.length cap0, .slice ao1 x.2.length cap1], .agg #[.string e.1, .slice fo e.2.length fc]] w fun r w' => r = .returned (.bool (pb (EntOk x e))) ∧ Below w.heap.size w w' := by
  obtain ⟨n, fs⟩ := e
  simp only at *
  have hm : fs.length ≤ 9223372036854775807 := Nat.le_trans hf.1 hf.2.1
  have hb0 : Below w.heap.size w ((w.alloc (.cells #[.slice ao0 x.1.length cap0, .slice ao1 x.2.length cap1] 35)).alloc (.cells #[.string n, .slice fo fs.length fc] 50)) := ((Below.refl _ _).alloc (Nat.le_refl _) _).alloc (by simp) _
  have HB0 : BxC w.heap.size #[.slice ao0 x.1.length cap0, .slice ao1 x.2.length cap1] ((w.alloc (.cells #[.slice ao0 x.1.length cap0, .slice ao1 x.2.length cap1] 35)).alloc (.cells #[.string n, .slice fo fs.length fc] 50)) := (BxC.new w _ _).below ((Below.refl (w.heap.size + 1) _).alloc (by simp) _) (by omega)
  have HC0 := BxC.new (w.alloc (.cells #[.slice ao0 x.1.length cap0, .slice ao1 x.2.length cap1] 35)) #[.string n, .slice fo fs.length fc] 50
  rw [World.size_alloc] at HC0
  have hz0 : ((w.alloc (.cells #[.slice ao0 x.1.length cap0, .slice ao1 x.2.length cap1] 35)).alloc (.cells #[.string n, .slice fo fs.length fc] 50)).heap.size = w.heap.size + 2 := by simp
  go_enter Tryz.func41, Tryz.ntmps41
  go_wp2
  go_loopw [10] (fun i wr => ∃ k : Nat, k ≤ fs.length ∧ i = .int .i64 k ∧ Hid (FldTo x n fs k) ∧ Below (w.heap.size + 2) ((w.alloc (.cells #[.slice ao0 x.1.length cap0, .slice ao1 x.2.length cap1] 35)).alloc (.cells #[.string n, .slice fo fs.length fc] 50)) wr) (fun i _ => fs.length - (intOf i).toNat)
  case atStart => exact ⟨0, Nat.zero_le _, rfl, FldTo.zero, (Below.refl _ _)⟩
  case round =>
    obtain ⟨k, hk, rfl, hpre, hbel⟩ := hrel
    have hB := hb0.trans (hbel.mono (by omega))
    have HB := HB0.below hbel (by omega)
    have HC := HC0.below hbel (by omega)
    have hbs : w.heap.size + 2 ≤ wr.heap.size := by have := hbel.size; rw [hz0] at this; exact this
    have hsz : w.heap.size + 1 < wr.heap.size := by omega
    have z1 := HC 1
    simp at z1
    by_cases hlt : k < fs.length
    · have hk1 : k - 1 < fs.length := by omega
      have hv := fld_small hs hlt
      obtain ⟨b, off, rfl, hok, c0, c1, c2, q0, _, _⟩ := elem_PlanField hf hlt
      have f0 := (hB.cell (p := ⟨b, off + k * 3, none⟩) hok).trans c0
      have f1 := (hB.cell (p := ⟨b, off + k * 3 + 1, none⟩) hok).trans c1
      have f2 := (hB.cell (p := ⟨b, off + k * 3 + 2, none⟩) hok).trans c2
      clear c0 c1 c2
      have hok : b < w.heap.size := hok
      have hkI : (k : Int) < (fs.length : Int) := by omega
      obtain ⟨wh, nu, v, hcur⟩ : ∃ a b c, fs[k]'hlt = (a, b, c) := ⟨_, _, _, rfl⟩
      have HNO : Hid (¬ ChangeOk x (n, wh, nu, v) → pb (EntOk x (n, fs)) = false) := fun h1 => pb_no (fun h2 => h1 (hcur ▸ (h2.2.2 k hlt hlt).1))
      have HYES : Hid (ChangeOk x (n, wh, nu, v) → (∀ h0 : 0 < k, (fs[k - 1]'hk1).1 < wh) → FldTo x n fs (k + 1)) := fun h1 h2 => hpre.out.next hlt (hcur ▸ h1) (fun h0 => by have := h2 h0; rw [hcur]; exact this)
      have HASC : Hid (∀ h0 : 0 < k, ¬ (fs[k - 1]'hk1).1 < wh → pb (EntOk x (n, fs)) = false) := fun h0 h1 => pb_no (fun h2 => h1 (by have := (h2.2.2 k hlt hlt).2 h0; rw [hcur] at this; exact this))
      rw [hcur] at f0 f1 f2 q0 hv
      simp only at f0 f1 f2 q0 hv
      clear hcur hpre
      by_cases hok0 : ChangeOk x (n, wh, nu, v)
      · have hok1 := pb_yes hok0
        by_cases hk0 : 0 < k
        · obtain ⟨b', off', hbo, _, d0, d1, d2, _⟩ := elem_PlanField hf hk1
          cases hbo
          have p0 := (hB.cell (p := ⟨b, off + (k - 1) * 3, none⟩) hok).trans d0
          clear d0 d1 d2
          have hd0 : decide ((0 : Int) < (k : Int)) = true := by simp; omega
          have hkI1 : (k : Int) - 1 < (fs.length : Int) := by omega
          have hkN : ((k : Int) - 1).toNat = k - 1 := by omega
          have hk1I : (1 : Int) ≤ (k : Int) := by omega
          have hkW : IntKind.i64.wrap ((k : Int) - 1) = (k : Int) - 1 := by rw [IntKind.wrap_i64]; all_goals omega
          by_cases hasc : (fs[k - 1]'hk1).1 < wh
          · have HN1 : Hid (FldTo x n fs (k + 1)) := HYES.out hok0 (fun _ => hasc)
            clear HNO HYES HASC hok0
            generalize (fs[k - 1]'hk1).1 = pw at p0 hasc
            have hge : decide (wh ≤ pw) = false := by simp; omega
            clear hasc
            go_wp2_with fail
            have hbW : Below wr.heap.size wr (wr.alloc (.cells #[.int .i64 wh, .int .i64 nu, .string v] 52)) := (Below.refl _ _).alloc (Nat.le_refl _) _
            have hbel1 := hbel.trans (hbW.mono hbs)
            have hB1 := hB.trans (hbW.mono (by omega))
            have hbs1 : w.heap.size + 2 ≤ (wr.alloc (.cells #[.int .i64 wh, .int .i64 nu, .string v] 52)).heap.size := by simp; omega
            have HF0 := BxC.new wr #[.int .i64 wh, .int .i64 nu, .string v] 52
            have v0 := HF0 0
            have v1 := HF0 1
            have v2 := HF0 2
            have r0 := (HB.below hbW (by omega)) 0
            have r1 := (HB.below hbW (by omega)) 1
            have r2 := (HC.below hbW (by omega)) 0
            have r3 := (HC.below hbW (by omega)) 1
            have r4 := (hbW.cell (p := ⟨b, off + (k - 1) * 3, none⟩) (Nat.lt_of_lt_of_le hok (by omega))).trans p0
            clear p0
            clear HF0 hbW f0 f1 f2 z1
            generalize (wr.alloc (.cells #[.int .i64 wh, .int .i64 nu, .string v] 52)) = wr1 at *
            have cA : ∀ dd os, Calls Tryz.prog 68 #[.agg #[.slice ao0 x.1.length cap0, .slice ao1 x.2.length cap1], .agg #[.string n, .int .i64 wh, .int .i64 nu, .string v]] (grow (redrawn wr1 dd) os) (fun e w'' => e = .returned (.bool true) ∧ ∃ p : Regrown, w'' = grow (redrawn wr1 p.d) p.os) := fun dd os => Calls.regrown_of (by rw [← hok1]; exact iSays x _ _ _ _ (n, wh, nu, v) _ (h.later (hB1.trans ((below_regrown wr1 dd os).mono hB1.size))) hx hn q0 hv)
            have cB : ∀ dd os, Calls Tryz.prog 45 #[.agg #[.string n, .slice (some ⟨b, off, none⟩) fs.length fc], .agg #[.int .i64 wh, .int .i64 nu, .string v]] (grow (redrawn wr1 dd) os) (fun e w'' => e = .returned (.agg #[.string n, .int .i64 wh, .int .i64 nu, .string v]) ∧ ∃ p : Regrown, w'' = grow (redrawn wr1 p.d) p.os) := fun dd os => Calls.regrown_of (eChange n _ wh nu v _)
            have g0 := cell_regrown v0
            have g1 := cell_regrown v1
            have g2 := cell_regrown v2
            have t0 := cell_regrown r0
            have t1 := cell_regrown r1
            have t2 := cell_regrown r2
            have t3 := cell_regrown r3
            have t4 := cell_regrown r4
            clear v0 v1 v2 r0 r1 r2 r3 r4 hok1
            refine Leg.wp_region_qw (by kernel_rfl) (by kernel_rfl) ?_
            refine Leg.QW.want (by kernel_rfl) (fun K hK => ?_)
            go_big_quiet_op
            refine hK _ ?_
            clear hK K
            refine Leg.QW.want (by kernel_rfl) (fun K hK => ?_)
            go_big_quiet_op
            refine hK _ ?_
            clear hK K
            refine Leg.QW.want (by kernel_rfl) (fun K hK => ?_)
            go_big_quiet_op
            refine hK _ ?_
            clear hK K
            refine Leg.QW.want (by kernel_rfl) (fun K hK => ?_)
            go_big_quiet_op
            refine ⟨_, fun _ => cB _ _, hK _ ?_⟩
            clear hK K
            refine Leg.QW.want (by kernel_rfl) (fun K hK => ?_)
            go_big_quiet_op
            refine ⟨_, fun _ => cA _ _, hK _ ?_⟩
            clear hK K
            refine Leg.QW.want (by kernel_rfl) (fun K hK => ?_)
            go_big_quiet_op
            refine hK _ ?_
            clear hK K
            refine Leg.QW.want (by kernel_rfl) (fun K hK => ?_)
            go_big_quiet_op
            refine hK _ ?_
            clear hK K
            refine Leg.QW.want (by kernel_rfl) (fun K hK => ?_)
            go_big_quiet_op
            refine hK _ ?_
            clear hK K
            refine Leg.QW.want (by kernel_rfl) (fun K hK => ?_)
            go_big_quiet_op
            refine hK _ ?_
            clear hK K
            refine Leg.QW.want (by kernel_rfl) (fun K hK => ?_)
            go_big_quiet_op
            refine hK _ ?_
            clear hK K
            refine Leg.QW.want (by kernel_rfl) (fun K hK => ?_)
            go_big_quiet_op
            refine hK _ ?_
            clear hK K
            refine Leg.QW.want (by kernel_rfl) (fun K hK => ?_)
            go_big_quiet_op
            refine hK _ ?_
            clear hK K
            refine Leg.QW.want (by kernel_rfl) (fun K hK => ?_)
            go_big_quiet_op
            refine hK _ ?_
            clear hK K
            refine Leg.QW.want (by kernel_rfl) (fun K hK => ?_)
            go_big_quiet_op
            refine hK _ ?_
            clear hK K
            refine Leg.QW.want (by kernel_rfl) (fun K hK => ?_)
            go_big_quiet_op
            refine hK _ ?_
            clear hK K
            refine Leg.QW.want (by kernel_rfl) (fun K hK => ?_)
            go_big_quiet_op
            refine hK _ ?_
            clear hK K
            refine Leg.QW.want (by kernel_rfl) (fun K hK => ?_)
            go_big_quiet_op
            refine hK _ ?_
            clear hK K
            refine Leg.QW.want (by kernel_rfl) (fun K hK => ?_)
            go_big_quiet_op
            refine hK _ ?_
            clear hK K
            refine Leg.QW.want (by kernel_rfl) (fun K hK => ?_)
            go_big_quiet_op
            refine hK _ ?_
            clear hK K
            refine Leg.QW.want (by kernel_rfl) (fun K hK => ?_)
            go_big_quiet_op
            refine hK _ ?_
            clear hK K
            refine Leg.QW.want (by kernel_rfl) (fun K hK => ?_)
            go_big_quiet_op
            refine hK _ ?_
            clear hK K
            refine Leg.QW.want (by kernel_rfl) (fun K hK => ?_)
            go_big_quiet_op
            refine hK _ ?_
            clear hK K
            refine Leg.QW.nil ?_
            intro _ hw'
            obtain ⟨⟨dq, osq⟩, hw''⟩ := hw'
            subst hw''
            have hbq := hbel1.trans ((below_regrown wr1 dq osq).mono hbs1)
            clear hbel hbel1 hB hB1 hbs hbs1 cA cB g0 g1 g2 t0 t1 t2 t3 t4 HB HC
            generalize grow (redrawn wr1 dq) osq = w9 at hbq ⊢
            have hxq0 := HC0.below hbq (by omega) 0
            have hxq1 := HC0.below hbq (by omega) 1
            go_wp2
            go_roundw
            case rel => exact ⟨k + 1, by omega, by go_num, HN1, hbq⟩
            case measure => simp [intOf]; omega
          · have HF : Hid (pb (EntOk x (n, fs)) = false) := HASC.out hk0 hasc
            clear HNO HYES HASC hok0
            generalize (fs[k - 1]'hk1).1 = pw at p0 hasc
            have hge : decide (wh ≤ pw) = true := by simp; omega
            clear hasc
            go_wp2_with fail
            have hbW : Below wr.heap.size wr (wr.alloc (.cells #[.int .i64 wh, .int .i64 nu, .string v] 52)) := (Below.refl _ _).alloc (Nat.le_refl _) _
            have hbel1 := hbel.trans (hbW.mono hbs)
            have hB1 := hB.trans (hbW.mono (by omega))
            have hbs1 : w.heap.size + 2 ≤ (wr.alloc (.cells #[.int .i64 wh, .int .i64 nu, .string v] 52)).heap.size := by simp; omega
            have HF0 := BxC.new wr #[.int .i64 wh, .int .i64 nu, .string v] 52
            have v0 := HF0 0
            have v1 := HF0 1
            have v2 := HF0 2
            have r0 := (HB.below hbW (by omega)) 0
            have r1 := (HB.below hbW (by omega)) 1
            have r2 := (HC.below hbW (by omega)) 0
            have r3 := (HC.below hbW (by omega)) 1
            have r4 := (hbW.cell (p := ⟨b, off + (k - 1) * 3, none⟩) (Nat.lt_of_lt_of_le hok (by omega))).trans p0
            clear p0
            clear HF0 hbW f0 f1 f2 z1
            generalize (wr.alloc (.cells #[.int .i64 wh, .int .i64 nu, .string v] 52)) = wr1 at *
            have cA : ∀ dd os, Calls Tryz.prog 68 #[.agg #[.slice ao0 x.1.length cap0, .slice ao1 x.2.length cap1], .agg #[.string n, .int .i64 wh, .int .i64 nu, .string v]] (grow (redrawn wr1 dd) os) (fun e w'' => e = .returned (.bool true) ∧ ∃ p : Regrown, w'' = grow (redrawn wr1 p.d) p.os) := fun dd os => Calls.regrown_of (by rw [← hok1]; exact iSays x _ _ _ _ (n, wh, nu, v) _ (h.later (hB1.trans ((below_regrown wr1 dd os).mono hB1.size))) hx hn q0 hv)
            have cB : ∀ dd os, Calls Tryz.prog 45 #[.agg #[.string n, .slice (some ⟨b, off, none⟩) fs.length fc], .agg #[.int .i64 wh, .int .i64 nu, .string v]] (grow (redrawn wr1 dd) os) (fun e w'' => e = .returned (.agg #[.string n, .int .i64 wh, .int .i64 nu, .string v]) ∧ ∃ p : Regrown, w'' = grow (redrawn wr1 p.d) p.os) := fun dd os => Calls.regrown_of (eChange n _ wh nu v _)
            have g0 := cell_regrown v0
            have g1 := cell_regrown v1
            have g2 := cell_regrown v2
            have t0 := cell_regrown r0
            have t1 := cell_regrown r1
            have t2 := cell_regrown r2
            have t3 := cell_regrown r3
            have t4 := cell_regrown r4
            clear v0 v1 v2 r0 r1 r2 r3 r4 hok1
            refine Leg.wp_region_qw (by kernel_rfl) (by kernel_rfl) ?_
            refine Leg.QW.want (by kernel_rfl) (fun K hK => ?_)
            go_big_quiet_op
            refine hK _ ?_
            clear hK K
            refine Leg.QW.want (by kernel_rfl) (fun K hK => ?_)
            go_big_quiet_op
            refine hK _ ?_
            clear hK K
            refine Leg.QW.want (by kernel_rfl) (fun K hK => ?_)
            go_big_quiet_op
            refine hK _ ?_
            clear hK K
            refine Leg.QW.want (by kernel_rfl) (fun K hK => ?_)
            go_big_quiet_op
            refine ⟨_, fun _ => cB _ _, hK _ ?_⟩
            clear hK K
            refine Leg.QW.want (by kernel_rfl) (fun K hK => ?_)
            go_big_quiet_op
            refine ⟨_, fun _ => cA _ _, hK _ ?_⟩
            clear hK K
            refine Leg.QW.want (by kernel_rfl) (fun K hK => ?_)
            go_big_quiet_op
            refine hK _ ?_
            clear hK K
            refine Leg.QW.want (by kernel_rfl) (fun K hK => ?_)
            go_big_quiet_op
            refine hK _ ?_
            clear hK K
            refine Leg.QW.want (by kernel_rfl) (fun K hK => ?_)
            go_big_quiet_op
            refine hK _ ?_
            clear hK K
            refine Leg.QW.want (by kernel_rfl) (fun K hK => ?_)
            go_big_quiet_op
            refine hK _ ?_
            clear hK K
            refine Leg.QW.want (by kernel_rfl) (fun K hK => ?_)
            go_big_quiet_op
            refine hK _ ?_
            clear hK K
            refine Leg.QW.want (by kernel_rfl) (fun K hK => ?_)
            go_big_quiet_op
            refine hK _ ?_
            clear hK K
            refine Leg.QW.want (by kernel_rfl) (fun K hK => ?_)
            go_big_quiet_op
            refine hK _ ?_
            clear hK K
            refine Leg.QW.want (by kernel_rfl) (fun K hK => ?_)
            go_big_quiet_op
            refine hK _ ?_
            clear hK K
            refine Leg.QW.want (by kernel_rfl) (fun K hK => ?_)
            go_big_quiet_op
            refine hK _ ?_
            clear hK K
            refine Leg.QW.want (by kernel_rfl) (fun K hK => ?_)
            go_big_quiet_op
            refine hK _ ?_
            clear hK K
            refine Leg.QW.want (by kernel_rfl) (fun K hK => ?_)
            go_big_quiet_op
            refine hK _ ?_
            clear hK K
            refine Leg.QW.want (by kernel_rfl) (fun K hK => ?_)
            go_big_quiet_op
            refine hK _ ?_
            clear hK K
            refine Leg.QW.want (by kernel_rfl) (fun K hK => ?_)
            go_big_quiet_op
            refine hK _ ?_
            clear hK K
            refine Leg.QW.want (by kernel_rfl) (fun K hK => ?_)
            go_big_quiet_op
            refine hK _ ?_
            clear hK K
            refine Leg.QW.want (by kernel_rfl) (fun K hK => ?_)
            go_big_quiet_op
            refine hK _ ?_
            clear hK K
            refine Leg.QW.want (by kernel_rfl) (fun K hK => ?_)
            go_big_quiet_op
            refine hK _ ?_
            clear hK K
            refine Leg.QW.want (by kernel_rfl) (fun K hK => ?_)
            go_big_quiet_op
            refine hK _ ?_
            clear hK K
            refine Leg.QW.nil ?_
            intro _ hw'
            obtain ⟨⟨dq, osq⟩, hw''⟩ := hw'
            subst hw''
            have hbq := hbel1.trans ((below_regrown wr1 dq osq).mono hbs1)
            clear hbel hbel1 hB hB1 hbs hbs1 cA cB g0 g1 g2 t0 t1 t2 t3 t4 HB HC
            generalize grow (redrawn wr1 dq) osq = w9 at hbq ⊢
            have hBq := hb0.trans (hbq.mono (by omega))
            go_wp2
            go_ret
            exact ⟨by rw [HF.out]; rfl, hBq⟩
        · have hd0 : decide ((0 : Int) < (k : Int)) = false := by simp; omega
          have HN1 : Hid (FldTo x n fs (k + 1)) := HYES.out hok0 (fun h0 => absurd h0 hk0)
          clear HNO HYES HASC hok0
          go_wp2_with fail
          have hbW : Below wr.heap.size wr (wr.alloc (.cells #[.int .i64 wh, .int .i64 nu, .string v] 52)) := (Below.refl _ _).alloc (Nat.le_refl _) _
          have hbel1 := hbel.trans (hbW.mono hbs)
          have hB1 := hB.trans (hbW.mono (by omega))
          have hbs1 : w.heap.size + 2 ≤ (wr.alloc (.cells #[.int .i64 wh, .int .i64 nu, .string v] 52)).heap.size := by simp; omega
          have HF0 := BxC.new wr #[.int .i64 wh, .int .i64 nu, .string v] 52
          have v0 := HF0 0
          have v1 := HF0 1
          have v2 := HF0 2
          have r0 := (HB.below hbW (by omega)) 0
          have r1 := (HB.below hbW (by omega)) 1
          have r2 := (HC.below hbW (by omega)) 0
          have r3 := (HC.below hbW (by omega)) 1
          clear HF0 hbW f0 f1 f2 z1
          generalize (wr.alloc (.cells #[.int .i64 wh, .int .i64 nu, .string v] 52)) = wr1 at *
          have cA : ∀ dd os, Calls Tryz.prog 68 #[.agg #[.slice ao0 x.1.length cap0, .slice ao1 x.2.length cap1], .agg #[.string n, .int .i64 wh, .int .i64 nu, .string v]] (grow (redrawn wr1 dd) os) (fun e w'' => e = .returned (.bool true) ∧ ∃ p : Regrown, w'' = grow (redrawn wr1 p.d) p.os) := fun dd os => Calls.regrown_of (by rw [← hok1]; exact iSays x _ _ _ _ (n, wh, nu, v) _ (h.later (hB1.trans ((below_regrown wr1 dd os).mono hB1.size))) hx hn q0 hv)
          have cB : ∀ dd os, Calls Tryz.prog 45 #[.agg #[.string n, .slice (some ⟨b, off, none⟩) fs.length fc], .agg #[.int .i64 wh, .int .i64 nu, .string v]] (grow (redrawn wr1 dd) os) (fun e w'' => e = .returned (.agg #[.string n, .int .i64 wh, .int .i64 nu, .string v]) ∧ ∃ p : Regrown, w'' = grow (redrawn wr1 p.d) p.os) := fun dd os => Calls.regrown_of (eChange n _ wh nu v _)
          have g0 := cell_regrown v0
          have g1 := cell_regrown v1
          have g2 := cell_regrown v2
          have t0 := cell_regrown r0
          have t1 := cell_regrown r1
          have t2 := cell_regrown r2
          have t3 := cell_regrown r3
          clear v0 v1 v2 r0 r1 r2 r3 hok1
          refine Leg.wp_region_qw (by kernel_rfl) (by kernel_rfl) ?_
          refine Leg.QW.want (by kernel_rfl) (fun K hK => ?_)
          go_big_quiet_op
          refine hK _ ?_
          clear hK K
          refine Leg.QW.want (by kernel_rfl) (fun K hK => ?_)
          go_big_quiet_op
          refine hK _ ?_
          clear hK K
          refine Leg.QW.want (by kernel_rfl) (fun K hK => ?_)
          go_big_quiet_op
          refine hK _ ?_
          clear hK K
          refine Leg.QW.want (by kernel_rfl) (fun K hK => ?_)
          go_big_quiet_op
          refine ⟨_, fun _ => cB _ _, hK _ ?_⟩
          clear hK K
          refine Leg.QW.want (by kernel_rfl) (fun K hK => ?_)
          go_big_quiet_op
          refine ⟨_, fun _ => cA _ _, hK _ ?_⟩
          clear hK K
          refine Leg.QW.want (by kernel_rfl) (fun K hK => ?_)
          go_big_quiet_op
          refine hK _ ?_
          clear hK K
          refine Leg.QW.want (by kernel_rfl) (fun K hK => ?_)
          go_big_quiet_op
          refine hK _ ?_
          clear hK K
          refine Leg.QW.want (by kernel_rfl) (fun K hK => ?_)
          go_big_quiet_op
          refine hK _ ?_
          clear hK K
          refine Leg.QW.want (by kernel_rfl) (fun K hK => ?_)
          go_big_quiet_op
          refine hK _ ?_
          clear hK K
          refine Leg.QW.want (by kernel_rfl) (fun K hK => ?_)
          go_big_quiet_op
          refine hK _ ?_
          clear hK K
          refine Leg.QW.skip (by kernel_rfl) ?_
          refine Leg.QW.skip (by kernel_rfl) ?_
          refine Leg.QW.skip (by kernel_rfl) ?_
          refine Leg.QW.skip (by kernel_rfl) ?_
          refine Leg.QW.skip (by kernel_rfl) ?_
          refine Leg.QW.skip (by kernel_rfl) ?_
          refine Leg.QW.skip (by kernel_rfl) ?_
          refine Leg.QW.skip (by kernel_rfl) ?_
          refine Leg.QW.skip (by kernel_rfl) ?_
          refine Leg.QW.skip (by kernel_rfl) ?_
          refine Leg.QW.want (by kernel_rfl) (fun K hK => ?_)
          go_simp
          refine hK _ ?_
          clear hK K
          refine Leg.QW.want (by kernel_rfl) (fun K hK => ?_)
          go_big_quiet_op
          refine hK _ ?_
          clear hK K
          refine Leg.QW.nil ?_
          intro _ hw'
          obtain ⟨⟨dq, osq⟩, hw''⟩ := hw'
          subst hw''
          have hbq := hbel1.trans ((below_regrown wr1 dq osq).mono hbs1)
          clear hbel hbel1 hB hB1 hbs hbs1 cA cB g0 g1 g2 t0 t1 t2 t3 HB HC
          generalize grow (redrawn wr1 dq) osq = w9 at hbq ⊢
          have hxq0 := HC0.below hbq (by omega) 0
          have hxq1 := HC0.below hbq (by omega) 1
          go_wp2
          go_roundw
          case rel => exact ⟨k + 1, by omega, by go_num, HN1, hbq⟩
          case measure => simp [intOf]; omega
      · have hok1 := pb_no hok0
        have HF : Hid (pb (EntOk x (n, fs)) = false) := HNO.out hok0
        clear HNO HYES HASC hok0
        go_wp2_with fail
        have hbW : Below wr.heap.size wr (wr.alloc (.cells #[.int .i64 wh, .int .i64 nu, .string v] 52)) := (Below.refl _ _).alloc (Nat.le_refl _) _
        have hbel1 := hbel.trans (hbW.mono hbs)
        have hB1 := hB.trans (hbW.mono (by omega))
        have hbs1 : w.heap.size + 2 ≤ (wr.alloc (.cells #[.int .i64 wh, .int .i64 nu, .string v] 52)).heap.size := by simp; omega
        have HF0 := BxC.new wr #[.int .i64 wh, .int .i64 nu, .string v] 52
        have v0 := HF0 0
        have v1 := HF0 1
        have v2 := HF0 2
        have r0 := (HB.below hbW (by omega)) 0
        have r1 := (HB.below hbW (by omega)) 1
        have r2 := (HC.below hbW (by omega)) 0
        have r3 := (HC.below hbW (by omega)) 1
        clear HF0 hbW f0 f1 f2 z1
        generalize (wr.alloc (.cells #[.int .i64 wh, .int .i64 nu, .string v] 52)) = wr1 at *
        have cA : ∀ dd os, Calls Tryz.prog 68 #[.agg #[.slice ao0 x.1.length cap0, .slice ao1 x.2.length cap1], .agg #[.string n, .int .i64 wh, .int .i64 nu, .string v]] (grow (redrawn wr1 dd) os) (fun e w'' => e = .returned (.bool false) ∧ ∃ p : Regrown, w'' = grow (redrawn wr1 p.d) p.os) := fun dd os => Calls.regrown_of (by rw [← hok1]; exact iSays x _ _ _ _ (n, wh, nu, v) _ (h.later (hB1.trans ((below_regrown wr1 dd os).mono hB1.size))) hx hn q0 hv)
        have cB : ∀ dd os, Calls Tryz.prog 45 #[.agg #[.string n, .slice (some ⟨b, off, none⟩) fs.length fc], .agg #[.int .i64 wh, .int .i64 nu, .string v]] (grow (redrawn wr1 dd) os) (fun e w'' => e = .returned (.agg #[.string n, .int .i64 wh, .int .i64 nu, .string v]) ∧ ∃ p : Regrown, w'' = grow (redrawn wr1 p.d) p.os) := fun dd os => Calls.regrown_of (eChange n _ wh nu v _)
        have g0 := cell_regrown v0
        have g1 := cell_regrown v1
        have g2 := cell_regrown v2
        have t0 := cell_regrown r0
        have t1 := cell_regrown r1
        have t2 := cell_regrown r2
        have t3 := cell_regrown r3
        clear v0 v1 v2 r0 r1 r2 r3 hok1
        refine Leg.wp_region_qw (by kernel_rfl) (by kernel_rfl) ?_
        refine Leg.QW.want (by kernel_rfl) (fun K hK => ?_)
        go_big_quiet_op
        refine hK _ ?_
        clear hK K
        refine Leg.QW.want (by kernel_rfl) (fun K hK => ?_)
        go_big_quiet_op
        refine hK _ ?_
        clear hK K
        refine Leg.QW.want (by kernel_rfl) (fun K hK => ?_)
        go_big_quiet_op
        refine hK _ ?_
        clear hK K
        refine Leg.QW.want (by kernel_rfl) (fun K hK => ?_)
        go_big_quiet_op
        refine ⟨_, fun _ => cB _ _, hK _ ?_⟩
        clear hK K
        refine Leg.QW.want (by kernel_rfl) (fun K hK => ?_)
        go_big_quiet_op
        refine ⟨_, fun _ => cA _ _, hK _ ?_⟩
        clear hK K
        refine Leg.QW.want (by kernel_rfl) (fun K hK => ?_)
        go_big_quiet_op
        refine hK _ ?_
        clear hK K
        refine Leg.QW.want (by kernel_rfl) (fun K hK => ?_)
        go_big_quiet_op
        refine hK _ ?_
        clear hK K
        refine Leg.QW.skip (by kernel_rfl) ?_
        refine Leg.QW.skip (by kernel_rfl) ?_
        refine Leg.QW.skip (by kernel_rfl) ?_
        refine Leg.QW.skip (by kernel_rfl) ?_
        refine Leg.QW.skip (by kernel_rfl) ?_
        refine Leg.QW.skip (by kernel_rfl) ?_
        refine Leg.QW.skip (by kernel_rfl) ?_
        refine Leg.QW.skip (by kernel_rfl) ?_
        refine Leg.QW.skip (by kernel_rfl) ?_
        refine Leg.QW.skip (by kernel_rfl) ?_
        refine Leg.QW.skip (by kernel_rfl) ?_
        refine Leg.QW.skip (by kernel_rfl) ?_
        refine Leg.QW.skip (by kernel_rfl) ?_
        refine Leg.QW.skip (by kernel_rfl) ?_
        refine Leg.QW.want (by kernel_rfl) (fun K hK => ?_)
        go_simp
        refine hK _ ?_
        clear hK K
        refine Leg.QW.nil ?_
        intro _ hw'
        obtain ⟨⟨dq, osq⟩, hw''⟩ := hw'
        subst hw''
        have hbq := hbel1.trans ((below_regrown wr1 dq osq).mono hbs1)
        clear hbel hbel1 hB hB1 hbs hbs1 cA cB g0 g1 g2 t0 t1 t2 t3 HB HC
        generalize grow (redrawn wr1 dq) osq = w9 at hbq ⊢
        have hBq := hb0.trans (hbq.mono (by omega))
        go_wp2
        go_ret
        exact ⟨by rw [HF.out]; rfl, hBq⟩
    · have hkl : k = fs.length := by omega
      have HR : Hid (pb (EntOk x (n, fs)) = decide (0 < fs.length)) := by
        by_cases h0 : 0 < fs.length
        · rw [decide_eq_true h0]; exact pb_yes (EntOk.of x n fs h0 (hkl ▸ hpre.out))
        · rw [decide_eq_false h0]; exact pb_no (fun h => h0 h.2.1)
      clear hpre hkl
      go_wp2
      go_ret
      exact ⟨by rw [HR.out]; rfl, hB⟩

end Go.Proofs.YtohgkiljdehefaaGreat
