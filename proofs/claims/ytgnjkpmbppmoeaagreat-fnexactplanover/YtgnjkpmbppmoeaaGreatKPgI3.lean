/- DERIVED. impl.planValueOf, impl.planValueFits, impl.planSaysOk: their walks (written by wip/tools/mk_pg3.py). -/
import Derived.Test.YtgnjkpmbppmoeaaGreatKGFd
import Derived.Test.YtgnjkpmbppmoeaaGreatKGPj
namespace Go.Proofs.YtgnjkpmbppmoeaaGreat
open Go.RowKit
set_option linter.unusedSimpArgs false
set_option linter.unusedVariables false

theorem methReadKind (a : Value) (w : World) : (method (336 + 1) 184 (.agg #[a]) "loop.example/lapwing/impl.read").run Tryz.prog w = .ok (151, .agg #[a]) w := by kernel_rfl
theorem methReadTime (w : World) : (method (336 + 1) 186 (.agg #[]) "loop.example/lapwing/impl.read").run Tryz.prog w = .ok (153, .agg #[]) w := by kernel_rfl
theorem methReadLevel (w : World) : (method (336 + 1) 187 (.agg #[]) "loop.example/lapwing/impl.read").run Tryz.prog w = .ok (156, .agg #[]) w := by kernel_rfl
theorem methReadRoute (a : Value) (w : World) : (method (336 + 1) 189 (.agg #[a]) "loop.example/lapwing/impl.read").run Tryz.prog w = .ok (157, .agg #[a]) w := by kernel_rfl
theorem methReadState (w : World) : (method (336 + 1) 190 (.agg #[]) "loop.example/lapwing/impl.read").run Tryz.prog w = .ok (158, .agg #[]) w := by kernel_rfl

/-- What a value says, if it fits. -/
structure SaysV (x : DPlanBase) (what : Int) (v : ByteArray) (B : Nat) (w' : World) (va : Value) : Prop where
  k : what = 1 → va = .iface 31 (.agg #[.string (findD nmK zK x.1 v).1, .int .i64 (findD nmK zK x.1 v).2.1, .int .i64 (findD nmK zK x.1 v).2.2])
  t : what = 2 → ∀ a b, wordsP v = [a, b] → va = .iface 194 (.agg #[.int .i64 (decZ a), .int .i64 (decZ b)])
  l : what = 3 → va = .iface 196 (.int .i64 (decZ v))
  r : what = 4 → RouteOk x.2 (wordsP v) → ∃ aw capw, va = .iface 198 (.slice aw (wordsP v).length capw) ∧ w'.ownsRow B 9 1 (.slice aw (wordsP v).length capw) (wordsP v).length (strB (wordsP v))
  s : what = 5 → va = .iface 167 (.string v)
/-- What a call of planValueOf leaves. -/
def GivesV (x : DPlanBase) (what : Int) (v : ByteArray) (w : World) (e : Ending) (w' : World) : Prop :=
  ∃ va, e = .returned (.tuple #[va, .bool (pb (FitsAs x what v))]) ∧ SaysV x what v w.heap.size w' va ∧ Below w.heap.size w w'
theorem own_lo2 {W : World} {b b' : Nat} {e : TypeId} {size k : Nat} {v : Value} {xs : List Value} (h : W.ownsRow b e size v k xs) (hb : b' < b) : W.ownsRow b' e size v k xs := by
  refine ⟨h.1, ?_⟩
  rcases h.2 with h1 | ⟨g, cap, cur, h1, h2, h3⟩
  · exact .inl h1
  · exact .inr ⟨g, cap, cur, h1, by omega, h3⟩

set_option maxRecDepth 100000 in
set_option maxHeartbeats 2000000 in
theorem iOf1 (x : DPlanBase) (ao0 : Option Addr) (cap0 : Nat) (ao1 : Option Addr) (cap1 : Nat) (v : ByteArray) (w : World) (h : BaseAt w x ao0 cap0 ao1 cap1) (hv : v.size ≤ 1048576) :
    Calls Tryz.prog 68 #[.agg #[.slice ao0 x.1.length cap0, .slice ao1 x.2.length cap1], .int .i64 1, .string v] w (GivesV x 1 v w) := by
  have hm := methReadKind
  have HE := fits1 x v
  have hb0 : Below w.heap.size w (w.alloc (.cells #[.slice ao0 x.1.length cap0, .slice ao1 x.2.length cap1] 40)) := (Below.refl _ _).alloc (Nat.le_refl _) _
  have HB0 := BxC.new w #[.slice ao0 x.1.length cap0, .slice ao1 x.2.length cap1] 40
  unfold GivesV
  go_enter Tryz.func68, Tryz.ntmps68
  go_wp2_with fail
  refine (Psd.said_any ao0 ao1 x.1.length x.2.length cap0 cap1 _).mono ?_
  rintro e w1 ⟨B, rfl, hl0, hb1⟩
  have HB1 := HB0.below hb1 (by simp)
  have hB1 := hb0.trans (hb1.mono hb0.size)
  have hz1 : w.heap.size < w1.heap.size := by have := hb1.size; simp at this; omega
  have hl : (Instr.lookup 163 (.map (some B)) (.int .i64 1) true).run Tryz.prog w1 = .ok (.tuple #[.iface 184 (.agg #[.slice ao0 x.1.length cap0]), .bool true]) w1 := hl0 1 (by unfold In64; omega)
  have HR : Hid (pb (FitsAs x 1 v) = _) := pb_same HE
  clear hl0 hb1 hb0 HB0 HB1 HE
  go_wp2_with fail
  refine (readKind ao0 cap0 x.1 v _ (h.later hB1).p0).mono ?_
  rintro e w4 ⟨rfl, hb4⟩
  have hB4 := hB1.trans (hb4.mono hB1.size)
  clear hb4 hl
  go_wp2
  refine bodyPost_ret (v := .tuple #[.iface 31 (.agg #[.string (findD nmK zK x.1 v).1, .int .i64 (findD nmK zK x.1 v).2.1, .int .i64 (findD nmK zK x.1 v).2.2]), .bool (pb (HasNm nmK x.1 v))]) (by simp [results, Tryz.results68, go_sem]) rfl ?_
  exact ⟨_, by rw [HR.out], ⟨fun _ => rfl, fun h => absurd h (by decide), fun h => absurd h (by decide), fun h => absurd h (by decide), fun h => absurd h (by decide)⟩, hB4⟩

set_option maxRecDepth 100000 in
set_option maxHeartbeats 2000000 in
theorem iOf2 (x : DPlanBase) (ao0 : Option Addr) (cap0 : Nat) (ao1 : Option Addr) (cap1 : Nat) (v : ByteArray) (w : World) (h : BaseAt w x ao0 cap0 ao1 cap1) (hv : v.size ≤ 1048576) :
    Calls Tryz.prog 68 #[.agg #[.slice ao0 x.1.length cap0, .slice ao1 x.2.length cap1], .int .i64 2, .string v] w (GivesV x 2 v w) := by
  have hm := methReadTime
  have HE := fits2 x v
  have hb0 : Below w.heap.size w (w.alloc (.cells #[.slice ao0 x.1.length cap0, .slice ao1 x.2.length cap1] 40)) := (Below.refl _ _).alloc (Nat.le_refl _) _
  have HB0 := BxC.new w #[.slice ao0 x.1.length cap0, .slice ao1 x.2.length cap1] 40
  unfold GivesV
  go_enter Tryz.func68, Tryz.ntmps68
  go_wp2_with fail
  refine (Psd.said_any ao0 ao1 x.1.length x.2.length cap0 cap1 _).mono ?_
  rintro e w1 ⟨B, rfl, hl0, hb1⟩
  have HB1 := HB0.below hb1 (by simp)
  have hB1 := hb0.trans (hb1.mono hb0.size)
  have hz1 : w.heap.size < w1.heap.size := by have := hb1.size; simp at this; omega
  have hl : (Instr.lookup 163 (.map (some B)) (.int .i64 2) true).run Tryz.prog w1 = .ok (.tuple #[.iface 186 (.agg #[]), .bool true]) w1 := hl0 2 (by unfold In64; omega)
  have HR : Hid (pb (FitsAs x 2 v) = _) := pb_same HE
  clear hl0 hb1 hb0 HB0 HB1 HE
  go_wp2_with fail
  refine (readTime v _ hv).mono ?_
  rintro e w4 ⟨va, rfl, hS, hb4⟩
  have hB4 := hB1.trans (hb4.mono hB1.size)
  clear hb4 hl
  go_wp2
  refine bodyPost_ret (v := .tuple #[va, .bool (pb (TimeOk (wordsP v)))]) (by simp [results, Tryz.results68, go_sem]) rfl ?_
  exact ⟨_, by rw [HR.out], ⟨fun h => absurd h (by decide), fun _ => hS, fun h => absurd h (by decide), fun h => absurd h (by decide), fun h => absurd h (by decide)⟩, hB4⟩

set_option maxRecDepth 100000 in
set_option maxHeartbeats 2000000 in
theorem iOf3 (x : DPlanBase) (ao0 : Option Addr) (cap0 : Nat) (ao1 : Option Addr) (cap1 : Nat) (v : ByteArray) (w : World) (h : BaseAt w x ao0 cap0 ao1 cap1) (hv : v.size ≤ 1048576) :
    Calls Tryz.prog 68 #[.agg #[.slice ao0 x.1.length cap0, .slice ao1 x.2.length cap1], .int .i64 3, .string v] w (GivesV x 3 v w) := by
  have hm := methReadLevel
  have HE := fits3 x v
  have hb0 : Below w.heap.size w (w.alloc (.cells #[.slice ao0 x.1.length cap0, .slice ao1 x.2.length cap1] 40)) := (Below.refl _ _).alloc (Nat.le_refl _) _
  have HB0 := BxC.new w #[.slice ao0 x.1.length cap0, .slice ao1 x.2.length cap1] 40
  unfold GivesV
  go_enter Tryz.func68, Tryz.ntmps68
  go_wp2_with fail
  refine (Psd.said_any ao0 ao1 x.1.length x.2.length cap0 cap1 _).mono ?_
  rintro e w1 ⟨B, rfl, hl0, hb1⟩
  have HB1 := HB0.below hb1 (by simp)
  have hB1 := hb0.trans (hb1.mono hb0.size)
  have hz1 : w.heap.size < w1.heap.size := by have := hb1.size; simp at this; omega
  have hl : (Instr.lookup 163 (.map (some B)) (.int .i64 3) true).run Tryz.prog w1 = .ok (.tuple #[.iface 187 (.agg #[]), .bool true]) w1 := hl0 3 (by unfold In64; omega)
  have HR : Hid (pb (FitsAs x 3 v) = _) := pb_same HE
  clear hl0 hb1 hb0 HB0 HB1 HE
  go_wp2_with fail
  refine (readLevel v _ (Nat.le_trans hv (by unfold maxLen; omega))).mono ?_
  rintro e w4 ⟨rfl, hb4⟩
  have hB4 := hB1.trans (hb4.mono hB1.size)
  clear hb4 hl
  go_wp2
  refine bodyPost_ret (v := .tuple #[.iface 196 (.int .i64 (decZ v)), .bool (pb (LevelOk v))]) (by simp [results, Tryz.results68, go_sem]) rfl ?_
  exact ⟨_, by rw [HR.out], ⟨fun h => absurd h (by decide), fun h => absurd h (by decide), fun _ => rfl, fun h => absurd h (by decide), fun h => absurd h (by decide)⟩, hB4⟩

set_option maxRecDepth 100000 in
set_option maxHeartbeats 2000000 in
theorem iOf4 (x : DPlanBase) (ao0 : Option Addr) (cap0 : Nat) (ao1 : Option Addr) (cap1 : Nat) (v : ByteArray) (w : World) (h : BaseAt w x ao0 cap0 ao1 cap1) (hv : v.size ≤ 1048576) :
    Calls Tryz.prog 68 #[.agg #[.slice ao0 x.1.length cap0, .slice ao1 x.2.length cap1], .int .i64 4, .string v] w (GivesV x 4 v w) := by
  have hm := methReadRoute
  have HE := fits4 x v
  have hb0 : Below w.heap.size w (w.alloc (.cells #[.slice ao0 x.1.length cap0, .slice ao1 x.2.length cap1] 40)) := (Below.refl _ _).alloc (Nat.le_refl _) _
  have HB0 := BxC.new w #[.slice ao0 x.1.length cap0, .slice ao1 x.2.length cap1] 40
  unfold GivesV
  go_enter Tryz.func68, Tryz.ntmps68
  go_wp2_with fail
  refine (Psd.said_any ao0 ao1 x.1.length x.2.length cap0 cap1 _).mono ?_
  rintro e w1 ⟨B, rfl, hl0, hb1⟩
  have HB1 := HB0.below hb1 (by simp)
  have hB1 := hb0.trans (hb1.mono hb0.size)
  have hz1 : w.heap.size < w1.heap.size := by have := hb1.size; simp at this; omega
  have hl : (Instr.lookup 163 (.map (some B)) (.int .i64 4) true).run Tryz.prog w1 = .ok (.tuple #[.iface 189 (.agg #[.slice ao1 x.2.length cap1]), .bool true]) w1 := hl0 4 (by unfold In64; omega)
  have HR : Hid (pb (FitsAs x 4 v) = _) := pb_same HE
  clear hl0 hb1 hb0 HB0 HB1 HE
  go_wp2_with fail
  refine (readRoute ao1 cap1 x.2 v _ (h.later hB1).p1 hv).mono ?_
  rintro e w4 ⟨va, rfl, hS, hb4⟩
  have hB4 := hB1.trans (hb4.mono hB1.size)
  have hS : Hid _ := hS
  clear hb4 hl
  go_wp2
  refine bodyPost_ret (v := .tuple #[va, .bool (pb (RouteOk x.2 (wordsP v)))]) (by simp [results, Tryz.results68, go_sem]) rfl ?_
  exact ⟨_, by rw [HR.out], ⟨fun h => absurd h (by decide), fun h => absurd h (by decide), fun h => absurd h (by decide), fun _ hr => by
      obtain ⟨aw, capw, e1, e2⟩ := hS.out hr
      exact ⟨aw, capw, e1, own_lo2 e2 hz1⟩, fun h => absurd h (by decide)⟩, hB4⟩

set_option maxRecDepth 100000 in
set_option maxHeartbeats 2000000 in
theorem iOf5 (x : DPlanBase) (ao0 : Option Addr) (cap0 : Nat) (ao1 : Option Addr) (cap1 : Nat) (v : ByteArray) (w : World) (h : BaseAt w x ao0 cap0 ao1 cap1) (hv : v.size ≤ 1048576) :
    Calls Tryz.prog 68 #[.agg #[.slice ao0 x.1.length cap0, .slice ao1 x.2.length cap1], .int .i64 5, .string v] w (GivesV x 5 v w) := by
  have hm := methReadState
  have HE := fits5 x v
  have hb0 : Below w.heap.size w (w.alloc (.cells #[.slice ao0 x.1.length cap0, .slice ao1 x.2.length cap1] 40)) := (Below.refl _ _).alloc (Nat.le_refl _) _
  have HB0 := BxC.new w #[.slice ao0 x.1.length cap0, .slice ao1 x.2.length cap1] 40
  unfold GivesV
  go_enter Tryz.func68, Tryz.ntmps68
  go_wp2_with fail
  refine (Psd.said_any ao0 ao1 x.1.length x.2.length cap0 cap1 _).mono ?_
  rintro e w1 ⟨B, rfl, hl0, hb1⟩
  have HB1 := HB0.below hb1 (by simp)
  have hB1 := hb0.trans (hb1.mono hb0.size)
  have hz1 : w.heap.size < w1.heap.size := by have := hb1.size; simp at this; omega
  have hl : (Instr.lookup 163 (.map (some B)) (.int .i64 5) true).run Tryz.prog w1 = .ok (.tuple #[.iface 190 (.agg #[]), .bool true]) w1 := hl0 5 (by unfold In64; omega)
  have HR : Hid (pb (FitsAs x 5 v) = _) := pb_same HE
  clear hl0 hb1 hb0 HB0 HB1 HE
  go_wp2_with fail
  refine (readState v _).mono ?_
  rintro e w4 ⟨rfl, hb4⟩
  have hB4 := hB1.trans (hb4.mono hB1.size)
  clear hb4 hl
  go_wp2
  refine bodyPost_ret (v := .tuple #[.iface 167 (.string v), .bool (pb (StateOk v))]) (by simp [results, Tryz.results68, go_sem]) rfl ?_
  exact ⟨_, by rw [HR.out], ⟨fun h => absurd h (by decide), fun h => absurd h (by decide), fun h => absurd h (by decide), fun h => absurd h (by decide), fun _ => rfl⟩, hB4⟩

set_option maxRecDepth 100000 in
set_option maxHeartbeats 2000000 in
theorem iOfNo (x : DPlanBase) (ao0 : Option Addr) (cap0 : Nat) (ao1 : Option Addr) (cap1 : Nat) (what : Int) (v : ByteArray) (w : World) (hw : In64 what) (hno : ¬ (1 ≤ what ∧ what ≤ 5)) :
    Calls Tryz.prog 68 #[.agg #[.slice ao0 x.1.length cap0, .slice ao1 x.2.length cap1], .int .i64 what, .string v] w (GivesV x what v w) := by
  have HR : Hid (pb (FitsAs x what v) = false) := pb_no (fun h => fits_no x what v hno h)
  have HS : Hid (∀ W, SaysV x what v w.heap.size W .nilIface) := fun W => ⟨fun h => absurd h (by omega), fun h => absurd h (by omega), fun h => absurd h (by omega), fun h => absurd h (by omega), fun h => absurd h (by omega)⟩
  have hb0 : Below w.heap.size w (w.alloc (.cells #[.slice ao0 x.1.length cap0, .slice ao1 x.2.length cap1] 40)) := (Below.refl _ _).alloc (Nat.le_refl _) _
  unfold GivesV
  go_enter Tryz.func68, Tryz.ntmps68
  go_wp2_with fail
  refine (Psd.said_any ao0 ao1 x.1.length x.2.length cap0 cap1 _).mono ?_
  rintro e w1 ⟨B, rfl, hl0, hb1⟩
  have hB1 := hb0.trans (hb1.mono hb0.size)
  have hl := hl0 what hw
  have hd : decide (1 ≤ what ∧ what ≤ 5) = false := by simp; omega
  rw [hd] at hl
  generalize Psd.saidV (.slice ao0 x.1.length cap0) (.slice ao1 x.2.length cap1) what = sv at hl
  clear hl0 hb1 hb0 hd hno
  go_wp2
  refine bodyPost_ret (v := .tuple #[.nilIface, .bool false]) (by simp [results, Tryz.results68, go_sem]) rfl ?_
  exact ⟨_, by rw [HR.out], HS.out _, hB1⟩

theorem iOf (x : DPlanBase) (ao0 : Option Addr) (cap0 : Nat) (ao1 : Option Addr) (cap1 : Nat) (what : Int) (v : ByteArray) (w : World) (h : BaseAt w x ao0 cap0 ao1 cap1) (hw : In64 what) (hv : v.size ≤ 1048576) :
    Calls Tryz.prog 68 #[.agg #[.slice ao0 x.1.length cap0, .slice ao1 x.2.length cap1], .int .i64 what, .string v] w (GivesV x what v w) := by
  by_cases hr : 1 ≤ what ∧ what ≤ 5
  · obtain rfl | rfl | rfl | rfl | rfl : what = 1 ∨ what = 2 ∨ what = 3 ∨ what = 4 ∨ what = 5 := by omega
    · exact iOf1 x ao0 cap0 ao1 cap1 v w h hv
    · exact iOf2 x ao0 cap0 ao1 cap1 v w h hv
    · exact iOf3 x ao0 cap0 ao1 cap1 v w h hv
    · exact iOf4 x ao0 cap0 ao1 cap1 v w h hv
    · exact iOf5 x ao0 cap0 ao1 cap1 v w h hv
  · exact iOfNo x ao0 cap0 ao1 cap1 what v w hw hr

set_option maxRecDepth 100000 in
set_option maxHeartbeats 2000000 in
theorem iVal (x : DPlanBase) (ao0 : Option Addr) (cap0 : Nat) (ao1 : Option Addr) (cap1 : Nat) (what : Int) (v : ByteArray) (w : World) (h : BaseAt w x ao0 cap0 ao1 cap1) (hok : BaseOk x) (hw : In64 what) (hv : v.size ≤ 1048576) :
    Calls Tryz.prog 116 #[.agg #[.slice ao0 x.1.length cap0, .slice ao1 x.2.length cap1], .int .i64 what, .string v] w fun e w' => e = .returned (.bool (pb (FitsOk x what v))) ∧ Below w.heap.size w w' := by
  have HR : pb (FitsOk x what v) = pb (FitsAs x what v) := pb_same ⟨fun h => h.2, fun h => ⟨hok, h⟩⟩
  rw [HR]
  have hb0 : Below w.heap.size w (w.alloc (.cells #[.slice ao0 x.1.length cap0, .slice ao1 x.2.length cap1] 40)) := (Below.refl _ _).alloc (Nat.le_refl _) _
  have HO := iOf x ao0 cap0 ao1 cap1 what v _ (h.later hb0) hw hv
  unfold GivesV at HO
  generalize pb (FitsAs x what v) = bv at *
  clear HR hok
  go_enter Tryz.func116, Tryz.ntmps116
  go_wp2_with fail
  refine HO.mono ?_
  rintro e w1 ⟨va, rfl, _, hb1⟩
  go_wp2
  go_ret
  exact ⟨rfl, hb0.trans (hb1.mono hb0.size)⟩

set_option maxRecDepth 100000 in
set_option maxHeartbeats 2000000 in
theorem iSays (x : DPlanBase) (ao0 : Option Addr) (cap0 : Nat) (ao1 : Option Addr) (cap1 : Nat) (c : DChange) (w : World) (h : BaseAt w x ao0 cap0 ao1 cap1) (hok : BaseOk x) (h1 : c.1.size ≤ maxLen) (h2 : In64 c.2.1) (h4 : c.2.2.2.size ≤ 1048576) :
    Calls Tryz.prog 101 #[.agg #[.slice ao0 x.1.length cap0, .slice ao1 x.2.length cap1], .agg #[.string c.1, .int .i64 c.2.1, .int .i64 c.2.2.1, .string c.2.2.2]] w fun e w' => e = .returned (.bool (pb (ChangeOk x c))) ∧ Below w.heap.size w w' := by
  obtain ⟨f, wh, n, v⟩ := c
  simp only at *
  have hb0 : Below w.heap.size w ((w.alloc (.cells #[.slice ao0 x.1.length cap0, .slice ao1 x.2.length cap1] 40)).alloc (.cells #[.string f, .int .i64 wh, .int .i64 n, .string v] 152)) := ((Below.refl _ _).alloc (Nat.le_refl _) _).alloc (by simp) _
  have HB0 : BxC w.heap.size #[.slice ao0 x.1.length cap0, .slice ao1 x.2.length cap1] ((w.alloc (.cells #[.slice ao0 x.1.length cap0, .slice ao1 x.2.length cap1] 40)).alloc (.cells #[.string f, .int .i64 wh, .int .i64 n, .string v] 152)) := (BxC.new w _ _).below ((Below.refl (w.heap.size + 1) _).alloc (by simp) _) (by omega)
  have HC0 := BxC.new (w.alloc (.cells #[.slice ao0 x.1.length cap0, .slice ao1 x.2.length cap1] 40)) #[.string f, .int .i64 wh, .int .i64 n, .string v] 152
  rw [World.size_alloc] at HC0
  have HFN := iName f
  have HFF := fun W hW => iVal x ao0 cap0 ao1 cap1 wh v W hW hok h2 h4
  clear hok
  go_enter Tryz.func101, Tryz.ntmps101
  go_wp2_with fail
  refine (HFN _ h1).mono ?_
  rintro e w1 ⟨rfl, hb1⟩
  have hB1 := hb0.trans (hb1.mono hb0.size)
  have HB1 := HB0.below hb1 (by simp; omega)
  have HC1 := HC0.below hb1 (by simp)
  have hz1 : w.heap.size + 1 < w1.heap.size := by have := hb1.size; simp at this; omega
  have hz1' : w.heap.size < w1.heap.size := by omega
  have x0 := HB1 0
  have x1 := HB1 1
  have y1 := HC1 1
  have y2 := HC1 2
  have y3 := HC1 3
  simp at x0 x1 y1 y2 y3
  clear hb1 hb0 HB0 HC0 HB1 HC1 HFN
  by_cases g1 : NameOk f
  · rw [pb_yes g1]
    by_cases g2 : InR n 1 1000000
    · have HR : Hid (pb (ChangeOk x (f, wh, n, v)) = pb (FitsOk x wh v)) := pb_same ⟨fun h => h.2.2, fun h => ⟨g1, g2, h⟩⟩
      go_wp2_with (first | (go_at_call 109; refine (from_yes _ _ _ _ g2).mono ?_; rintro e w' ⟨rfl, hwq⟩; try subst hwq) | (go_at_call 116; refine (HFF _ (h.later hB1)).mono ?_; rintro e w2 ⟨rfl, hb2⟩))
      go_ret
      exact ⟨by rw [HR.out]; rfl, hB1.trans (hb2.mono hB1.size)⟩
    · have HR : Hid (pb (ChangeOk x (f, wh, n, v)) = false) := pb_no (fun h => g2 h.2.1)
      go_wp2_with (go_at_call 109; refine (from_no _ _ _ _ g2).mono ?_; rintro e w' ⟨rfl, hwq⟩; try subst hwq)
      go_ret
      exact ⟨by rw [HR.out]; rfl, hB1⟩
  · rw [pb_no g1]
    have HR : Hid (pb (ChangeOk x (f, wh, n, v)) = false) := pb_no (fun h => g1 h.1)
    go_wp2_with fail
    go_ret
    exact ⟨by rw [HR.out]; rfl, hB1⟩

end Go.Proofs.YtgnjkpmbppmoeaaGreat
