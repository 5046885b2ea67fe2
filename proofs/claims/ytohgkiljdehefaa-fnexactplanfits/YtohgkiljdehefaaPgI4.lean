/- DERIVED. impl.PlanFits, impl.PlanChangeOk: their walks (written by wip/tools/mk_pg.py). -/
import Derived.Test.YtohgkiljdehefaaPgI3
namespace Go.Proofs.Ytohgkiljdehefaa
open Go.RowKit
set_option linter.unusedSimpArgs false
set_option linter.unusedVariables false

set_option maxRecDepth 100000 in
set_option maxHeartbeats 2000000 in
theorem iFits (x : DPlanBase) (ao0 : Option Addr) (cap0 : Nat) (ao1 : Option Addr) (cap1 : Nat) (what : Int) (v : ByteArray) (w : World) (h : BaseAt w x ao0 cap0 ao1 cap1) (hw : In64 what) (hv : v.size ≤ 1048576) :
    Calls Try.prog 14 #[.agg #[.slice ao0 x.1.length cap0, .slice ao1 x.2.length cap1], .int .i64 what, .string v] w fun e w' => e = .returned (.bool (pb (FitsOk x what v))) ∧ Below w.heap.size w w' := by
  have hb0 : Below w.heap.size w (w.alloc (.cells #[.slice ao0 x.1.length cap0, .slice ao1 x.2.length cap1] 31)) := (Below.refl _ _).alloc (Nat.le_refl _) _
  have HB0 := BxC.new w #[.slice ao0 x.1.length cap0, .slice ao1 x.2.length cap1] 31
  go_enter Try.func14, Try.ntmps14
  go_wp2_with fail
  refine (iBase x ao0 cap0 ao1 cap1 _ (h.later hb0).p0 (h.later hb0).p1).mono ?_
  rintro e w1 ⟨rfl, hb1⟩
  have HB1 := HB0.below hb1 (by simp)
  have hB1 := hb0.trans (hb1.mono hb0.size)
  have hz1 : w.heap.size < w1.heap.size := by have := hb1.size; simp at this; omega
  have x0 := HB1 0
  have x1 := HB1 1
  simp at x0 x1
  clear hb1 hb0 HB0 HB1
  by_cases hok : BaseOk x
  · rw [pb_yes hok]
    go_wp2_with fail
    refine (iVal x ao0 cap0 ao1 cap1 what v _ (h.later hB1) hok hw hv).mono ?_
    rintro e w4 ⟨rfl, hb4⟩
    have hB4 := hB1.trans (hb4.mono hB1.size)
    clear hb4 hok
    go_wp2
    go_ret
    exact ⟨rfl, hB4⟩
  · rw [pb_no hok]
    have HR : Hid (pb (FitsOk x what v) = false) := pb_no (fun h => hok h.1)
    clear hok
    go_wp2
    go_ret
    exact ⟨by rw [HR.out]; rfl, hB1⟩

set_option maxRecDepth 100000 in
set_option maxHeartbeats 2000000 in
theorem iChange (x : DPlanBase) (ao0 : Option Addr) (cap0 : Nat) (ao1 : Option Addr) (cap1 : Nat) (c : DChange) (w : World) (h : BaseAt w x ao0 cap0 ao1 cap1) (h1 : c.1.size ≤ maxLen) (h2 : In64 c.2.1) (h4 : c.2.2.2.size ≤ 1048576) :
    Calls Try.prog 18 #[.agg #[.slice ao0 x.1.length cap0, .slice ao1 x.2.length cap1], .agg #[.string c.1, .int .i64 c.2.1, .int .i64 c.2.2.1, .string c.2.2.2]] w fun e w' => e = .returned (.bool (pb (ChangeOk x c))) ∧ Below w.heap.size w w' := by
  obtain ⟨f, wh, n, v⟩ := c
  simp only at *
  have hb0 : Below w.heap.size w ((w.alloc (.cells #[.slice ao0 x.1.length cap0, .slice ao1 x.2.length cap1] 31)).alloc (.cells #[.string f, .int .i64 wh, .int .i64 n, .string v] 41)) := ((Below.refl _ _).alloc (Nat.le_refl _) _).alloc (by simp) _
  have HB0 : BxC w.heap.size #[.slice ao0 x.1.length cap0, .slice ao1 x.2.length cap1] ((w.alloc (.cells #[.slice ao0 x.1.length cap0, .slice ao1 x.2.length cap1] 31)).alloc (.cells #[.string f, .int .i64 wh, .int .i64 n, .string v] 41)) := (BxC.new w _ _).below ((Below.refl (w.heap.size + 1) _).alloc (by simp) _) (by omega)
  have HC0 := BxC.new (w.alloc (.cells #[.slice ao0 x.1.length cap0, .slice ao1 x.2.length cap1] 31)) #[.string f, .int .i64 wh, .int .i64 n, .string v] 41
  rw [World.size_alloc] at HC0
  go_enter Try.func18, Try.ntmps18
  go_wp2_with fail
  refine (iBase x ao0 cap0 ao1 cap1 _ (h.later hb0).p0 (h.later hb0).p1).mono ?_
  rintro e w1 ⟨rfl, hb1⟩
  have hB1 := hb0.trans (hb1.mono hb0.size)
  have HB1 := HB0.below hb1 (by simp; omega)
  have HC1 := HC0.below hb1 (by simp)
  have hz1 : w.heap.size + 1 < w1.heap.size := by have := hb1.size; simp at this; omega
  have hz1' : w.heap.size < w1.heap.size := by omega
  have x0 := HB1 0
  have x1 := HB1 1
  have y0 := HC1 0
  have y1 := HC1 1
  have y2 := HC1 2
  have y3 := HC1 3
  simp at x0 x1 y0 y1 y2 y3
  clear hb1 hb0 HB0 HC0 HB1 HC1
  by_cases hok : BaseOk x
  · rw [pb_yes hok]
    go_wp2_with fail
    refine (iSays x ao0 cap0 ao1 cap1 (f, wh, n, v) _ (h.later hB1) hok h1 h2 h4).mono ?_
    rintro e w2 ⟨rfl, hb2⟩
    have hB2 := hB1.trans (hb2.mono hB1.size)
    clear hb2 hok x0 x1 y0 y1 y2 y3
    go_wp2
    go_ret
    exact ⟨rfl, hB2⟩
  · rw [pb_no hok]
    have HR : Hid (pb (ChangeOk x (f, wh, n, v)) = false) := pb_no (fun h => hok h.2.2.1)
    clear hok
    go_wp2
    go_ret
    exact ⟨by rw [HR.out]; rfl, hB1⟩

end Go.Proofs.Ytohgkiljdehefaa
