/- DERIVED. (impl.FlyPath).kindOk, stepsOk, endOk: their walks. -/
import Derived.Test.YtfjeiegoblaadaaFyI0
namespace Go.Proofs.Ytfjeiegoblaadaa
namespace Fly
open Go.RowKit
set_option linter.unusedSimpArgs false
set_option linter.unusedVariables false

def LenOk (l : List DFlyStep) : Prop := 1 ≤ l.length ∧ l.length ≤ 40
def StepsOk (l : List DFlyStep) : Prop := LenOk l ∧ AllOk l
/-- The first k steps are ok. -/
def OkTo (l : List DFlyStep) (k : Nat) : Prop := ∀ i (h : i < l.length), i < k → StepOk l[i]
theorem OkTo.next {l : List DFlyStep} {k : Nat} (h : OkTo l k) (hk : k < l.length) (hs : StepOk (l[k]'hk)) : OkTo l (k + 1) := fun i hi hik => by
  by_cases e : i = k
  · subst e; exact hs
  · exact h i hi (by omega)
theorem OkTo.all {l : List DFlyStep} (h : OkTo l l.length) : AllOk l := fun i hi => h i hi hi

set_option maxHeartbeats 1000000 in
theorem iKindOkP (k : DFlyKind) (a b c : Value) (w : World) :
    Calls Try.prog 27 #[.agg #[.int .i64 k.1, .int .i64 k.2, a, b, c]] w fun e w' => e = .returned (.bool (pb (KindOk k))) ∧ Below w.heap.size w w' := by
  have HK := fun W => iKind k W
  obtain ⟨q, s⟩ := k
  simp only [vKi] at *
  have HB : Below w.heap.size w (w.alloc (.cells #[.int .i64 q, .int .i64 s, a, b, c] 35)) := (Below.refl _ _).alloc (Nat.le_refl _) _
  generalize pb (KindOk (q, s)) = v at *
  go_enter Try.func27, Try.ntmps27
  go_wp2_with fail
  refine (HK _).mono ?_
  rintro e w1 ⟨rfl, hb⟩
  have HB1 := HB.trans (hb.mono HB.size)
  clear HB hb HK
  go_wp2
  go_ret
  exact ⟨rfl, HB1⟩

theorem iEndOkP (f u : Int) (a b c : Value) (w : World) :
    Calls Try.prog 30 #[.agg #[a, b, c, .int .i64 f, .int .i64 u]] w fun e w' => e = .returned (.bool (pb (TicksOk f u))) ∧ Below w.heap.size w w' := by
  have HK := fun W => iTicks f u W
  have HB : Below w.heap.size w (w.alloc (.cells #[a, b, c, .int .i64 f, .int .i64 u] 35)) := (Below.refl _ _).alloc (Nat.le_refl _) _
  generalize pb (TicksOk f u) = v at *
  go_enter Try.func30, Try.ntmps30
  go_wp2_with fail
  refine (HK _).mono ?_
  rintro e w1 ⟨rfl, rfl⟩
  clear HK
  go_wp2
  go_ret
  exact ⟨rfl, HB⟩

set_option maxHeartbeats 2000000 in
theorem iStepsOk (ao : Option Addr) (cap : Nat) (l : List DFlyStep) (a b c d : Value) (w : World) (h : SliceAt vFlyStep (old w) w ao cap l) :
    Calls Try.prog 28 #[.agg #[a, b, .slice ao l.length cap, c, d]] w fun e w' => e = .returned (.bool (pb (StepsOk l))) ∧ Below w.heap.size w w' := by
  have HB : Below w.heap.size w (w.alloc (.cells #[a, b, .slice ao l.length cap, c, d] 35)) := (Below.refl _ _).alloc (Nat.le_refl _) _
  by_cases hl : InR (l.length : Int) 1 40
  · have hl40 : l.length ≤ 40 := by have := hl.2; omega
    have HLO : Hid (LenOk l) := ⟨by have := hl.1; omega, hl40⟩
    go_enter Try.func28, Try.ntmps28
    go_wp2_with (go_at_call 39; refine (from_yes _ _ _ _ (by assumption)).mono ?_; rintro e w' ⟨rfl, rfl⟩)
    go_loopw [13] (fun i wr => ∃ k : Nat, k ≤ l.length ∧ i = .int .i64 k ∧ Hid (OkTo l k) ∧ Below w.heap.size w wr) (fun i _ => l.length - (intOf i).toNat)
    case atStart => exact ⟨0, Nat.zero_le _, rfl, fun j _ hj => by omega, HB⟩
    case round =>
      obtain ⟨k, hk, rfl, hpre, hB⟩ := hrel
      by_cases hlt : k < l.length
      · obtain ⟨g, off, rfl, hok, c0, c1, c2, c3, c4, c5, c6, _⟩ := elem_FlyStep h hlt
        have f0 := (hB.cell (p := ⟨g, off + k * 7, none⟩) hok).trans c0
        have f1 := (hB.cell (p := ⟨g, off + k * 7 + 1, none⟩) hok).trans c1
        have f2 := (hB.cell (p := ⟨g, off + k * 7 + 2, none⟩) hok).trans c2
        have f3 := (hB.cell (p := ⟨g, off + k * 7 + 3, none⟩) hok).trans c3
        have f4 := (hB.cell (p := ⟨g, off + k * 7 + 4, none⟩) hok).trans c4
        have f5 := (hB.cell (p := ⟨g, off + k * 7 + 5, none⟩) hok).trans c5
        have f6 := (hB.cell (p := ⟨g, off + k * 7 + 6, none⟩) hok).trans c6
        clear c0 c1 c2 c3 c4 c5 c6
        have HNO : Hid (¬ StepOk (l[k]'hlt) → pb (StepsOk l) = false) := fun h1 => pb_no (fun h2 => h1 (h2.2 k hlt))
        have HYES : Hid (StepOk (l[k]'hlt) → OkTo l (k + 1)) := fun h1 => hpre.out.next hlt h1
        generalize l[k]'hlt = s at *
        have HS := fun W => iStep s W
        obtain ⟨x, y, lo, hi, fr, up, hd⟩ := s
        simp only [vSt, cSt] at f0 f1 f2 f3 f4 f5 f6 HS
        clear hpre h
        by_cases hs : StepOk (x, y, lo, hi, fr, up, hd)
        · have HN := HYES.out hs
          rw [pb_yes hs] at HS
          have HN' : Hid _ := HN
          clear HNO HYES hs HN
          go_wp2_with fail
          refine (HS _).mono ?_
          rintro e w1 ⟨rfl, hb1⟩
          have hB1 := (hB.alloc hB.size (.cells #[.int .i64 x, .int .i64 y, .int .i64 lo, .int .i64 hi, .int .i64 fr, .int .i64 up, .bool hd] 52)).trans (hb1.mono (by have := hB.size; simp; omega))
          clear hb1 HS hB
          go_wp2
          go_roundw
          case rel => exact ⟨k + 1, by omega, by go_num, HN', hB1⟩
          case measure => simp [intOf]; omega
        · have HN : Hid (pb (StepsOk l) = false) := HNO.out hs
          rw [pb_no hs] at HS
          clear HNO HYES hs
          go_wp2_with fail
          refine (HS _).mono ?_
          rintro e w1 ⟨rfl, hb1⟩
          have hB1 := (hB.alloc hB.size (.cells #[.int .i64 x, .int .i64 y, .int .i64 lo, .int .i64 hi, .int .i64 fr, .int .i64 up, .bool hd] 52)).trans (hb1.mono (by have := hB.size; simp; omega))
          clear hb1 HS hB
          go_wp2
          go_ret
          exact ⟨by rw [HN.out]; rfl, hB1⟩
      · have hke : k = l.length := by omega
        subst hke
        have HR : Hid (pb (StepsOk l) = true) := pb_yes ⟨HLO.out, hpre.out.all⟩
        clear hpre h
        go_wp2
        go_ret
        exact ⟨by rw [HR.out]; rfl, hB⟩
  · have HR : Hid (pb (StepsOk l) = false) := pb_no fun h => hl ⟨by have := h.1.1; omega, by have := h.1.2; omega⟩
    go_enter Try.func28, Try.ntmps28
    go_wp2_with (go_at_call 39; refine (from_no _ _ _ _ (by assumption)).mono ?_; rintro e w' ⟨rfl, rfl⟩)
    go_ret
    exact ⟨by rw [HR.out]; rfl, HB⟩

end Fly
end Go.Proofs.Ytfjeiegoblaadaa
