/- DERIVED. spec.PlanChangeOk: its walk (written by wip/tools/mk_pf3.py). -/
import Derived.Test.YtgnjkpmbppmoeaaGreatPfS2
namespace Go.Proofs.YtgnjkpmbppmoeaaGreat
open Go.RowKit
set_option linter.unusedSimpArgs false
set_option linter.unusedVariables false

theorem s11name (s : ByteArray) (w : World) (hs : s.size ≤ maxLen) : Calls Tryz.prog 93 #[.string s] w fun e w' => e = .returned (.bool (pb (NameOk s))) ∧ Below w.heap.size w w' :=
  (s11nameOk_both s w hs).mono fun e w' h => by
    rcases h with ⟨⟨h1, rfl⟩ | ⟨h1, rfl⟩, rfl⟩
    · exact ⟨by rw [pb_yes h1], Below.refl _ _⟩
    · exact ⟨by rw [pb_no h1], Below.refl _ _⟩

set_option maxRecDepth 100000 in
set_option maxHeartbeats 2000000 in
theorem sChange (x : DPlanBase) (ao0 : Option Addr) (cap0 : Nat) (ao1 : Option Addr) (cap1 : Nat) (c : DChange) (w : World) (h : BaseAt w x ao0 cap0 ao1 cap1) (h1 : c.1.size ≤ maxLen) (h2 : In64 c.2.1) (h4 : c.2.2.2.size ≤ 1048576) :
    Calls Tryz.prog 94 #[.agg #[.slice ao0 x.1.length cap0, .slice ao1 x.2.length cap1], .agg #[.string c.1, .int .i64 c.2.1, .int .i64 c.2.2.1, .string c.2.2.2]] w fun e w' => e = .returned (.bool (pb (ChangeOk x c))) ∧ Below w.heap.size w w' := by
  obtain ⟨f, wh, n, v⟩ := c
  simp only at *
  have hb0 : Below w.heap.size w ((w.alloc (.cells #[.slice ao0 x.1.length cap0, .slice ao1 x.2.length cap1] 40)).alloc (.cells #[.string f, .int .i64 wh, .int .i64 n, .string v] 152)) := ((Below.refl _ _).alloc (Nat.le_refl _) _).alloc (by simp) _
  have HB0 : BxC w.heap.size #[.slice ao0 x.1.length cap0, .slice ao1 x.2.length cap1] ((w.alloc (.cells #[.slice ao0 x.1.length cap0, .slice ao1 x.2.length cap1] 40)).alloc (.cells #[.string f, .int .i64 wh, .int .i64 n, .string v] 152)) := (BxC.new w _ _).below ((Below.refl (w.heap.size + 1) _).alloc (by simp) _) (by omega)
  have HC0 := BxC.new (w.alloc (.cells #[.slice ao0 x.1.length cap0, .slice ao1 x.2.length cap1] 40)) #[.string f, .int .i64 wh, .int .i64 n, .string v] 152
  rw [World.size_alloc] at HC0
  have HFN := s11name f
  have HFF := fun W hW => sFits x ao0 cap0 ao1 cap1 wh v W hW h2 h4
  go_enter Tryz.func94, Tryz.ntmps94
  go_wp2_with fail
  refine (HFN _ h1).mono ?_
  rintro e w1 ⟨rfl, hb1⟩
  have hB1 := hb0.trans (hb1.mono hb0.size)
  have HB1 := HB0.below hb1 (by simp; omega)
  have HC1 := HC0.below hb1 (by simp)
  have hz1 : w.heap.size + 1 < w1.heap.size := by have := hb1.size; simp at this; omega
  have hz1' : w.heap.size < w1.heap.size := by omega
  have x0 := HB1 0
  have x1 := HB1 1
  have y1 := HC1 1
  have y2 := HC1 2
  have y3 := HC1 3
  simp at x0 x1 y1 y2 y3
  clear hb1 hb0 HB0 HC0 HB1 HC1 HFN
  by_cases g1 : NameOk f
  · rw [pb_yes g1]
    by_cases g2 : InR n 1 1000000
    · have HR : Hid (pb (ChangeOk x (f, wh, n, v)) = pb (FitsOk x wh v)) := pb_same ⟨fun h => h.2.2, fun h => ⟨g1, g2, h⟩⟩
      go_wp2_with (first | (go_at_call 81; refine (s11in_yes _ _ _ _ g2).mono ?_; rintro e w' ⟨rfl, hwq⟩; try subst hwq) | (go_at_call 113; refine (HFF _ (h.later hB1)).mono ?_; rintro e w2 ⟨rfl, hb2⟩))
      go_ret
      exact ⟨by rw [HR.out]; rfl, hB1.trans (hb2.mono hB1.size)⟩
    · have HR : Hid (pb (ChangeOk x (f, wh, n, v)) = false) := pb_no (fun h => g2 h.2.1)
      go_wp2_with (go_at_call 81; refine (s11in_no _ _ _ _ g2).mono ?_; rintro e w' ⟨rfl, hwq⟩; try subst hwq)
      go_ret
      exact ⟨by rw [HR.out]; rfl, hB1⟩
  · rw [pb_no g1]
    have HR : Hid (pb (ChangeOk x (f, wh, n, v)) = false) := pb_no (fun h => g1 h.1)
    go_wp2_with fail
    go_ret
    exact ⟨by rw [HR.out]; rfl, hB1⟩

end Go.Proofs.YtgnjkpmbppmoeaaGreat
