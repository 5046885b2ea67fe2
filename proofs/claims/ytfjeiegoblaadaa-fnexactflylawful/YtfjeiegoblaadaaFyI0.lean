/- DERIVED. Kinds, ticks, steps of flying: the program's small functions, walked. -/
import Derived.Test.YtfjeiegoblaadaaFyD
import Derived.Test.YtfjeiegoblaadaaNm0
import Derived.Test.YtfjeiegoblaadaaNd0
namespace Go.Proofs.Ytfjeiegoblaadaa
namespace Fly
open Go.RowKit
set_option linter.unusedSimpArgs false
set_option linter.unusedVariables false

theorem iKind (k : DFlyKind) (w : World) :
    Calls Try.prog 22 #[vKi k] w fun e w' => e = .returned (.bool (pb (KindOk k))) ∧ Below w.heap.size w w' := by
  obtain ⟨q, s⟩ := k
  simp only [vKi]
  have HB : Below w.heap.size w (w.alloc (.cells #[.int .i64 q, .int .i64 s] 25)) := (Below.refl _ _).alloc (Nat.le_refl _) _
  by_cases h1 : 1 ≤ q
  · by_cases h2 : q ≤ s
    · by_cases h3 : s ≤ 50
      · have HR : Hid (pb (KindOk (q, s)) = true) := pb_yes ⟨h1, h2, h3⟩
        go_enter Try.func22, Try.ntmps22
        go_wp2
        go_ret
        exact ⟨by rw [HR.out]; simp [h1, h2, h3], HB⟩
      · have HR : Hid (pb (KindOk (q, s)) = false) := pb_no fun h => h3 h.2.2
        go_enter Try.func22, Try.ntmps22
        go_wp2
        go_ret
        exact ⟨by rw [HR.out]; simp; try omega, HB⟩
    · have HR : Hid (pb (KindOk (q, s)) = false) := pb_no fun h => h2 h.2.1
      go_enter Try.func22, Try.ntmps22
      go_wp2
      go_ret
      exact ⟨by rw [HR.out]; simp; try omega, HB⟩
  · have HR : Hid (pb (KindOk (q, s)) = false) := pb_no fun h => h1 h.1
    go_enter Try.func22, Try.ntmps22
    go_wp2
    go_ret
    exact ⟨by rw [HR.out]; simp; try omega, HB⟩

theorem iKindOk (k : DFlyKind) (w : World) :
    Calls Try.prog 9 #[vKi k] w fun e w' => e = .returned (.bool (pb (KindOk k))) ∧ Below w.heap.size w w' := by
  have HK := fun W => iKind k W
  obtain ⟨q, s⟩ := k
  simp only [vKi] at *
  have HB : Below w.heap.size w (w.alloc (.cells #[.int .i64 q, .int .i64 s] 25)) := (Below.refl _ _).alloc (Nat.le_refl _) _
  generalize pb (KindOk (q, s)) = v at *
  go_enter Try.func9, Try.ntmps9
  go_wp2_with fail
  refine (HK _).mono ?_
  rintro e w1 ⟨rfl, hb⟩
  have HB1 := HB.trans (hb.mono HB.size)
  clear HB hb HK
  go_wp2
  go_ret
  exact ⟨rfl, HB1⟩

theorem iTicks (a b : Int) (w : World) :
    Calls Try.prog 43 #[.int .i64 a, .int .i64 b] w fun e w' => e = .returned (.bool (pb (TicksOk a b))) ∧ w = w' := by
  by_cases h1 : 0 ≤ a
  · by_cases h2 : a ≤ b
    · by_cases h3 : b ≤ 10000
      · have HR : Hid (pb (TicksOk a b) = true) := pb_yes ⟨h1, h2, h3⟩
        go_enter Try.func43, Try.ntmps43
        go_wp2
        go_ret
        exact ⟨by rw [HR.out]; simp [h1, h2, h3], rfl⟩
      · have HR : Hid (pb (TicksOk a b) = false) := pb_no fun h => h3 h.2.2
        go_enter Try.func43, Try.ntmps43
        go_wp2
        go_ret
        exact ⟨by rw [HR.out]; simp; try omega, rfl⟩
    · have HR : Hid (pb (TicksOk a b) = false) := pb_no fun h => h2 h.2.1
      go_enter Try.func43, Try.ntmps43
      go_wp2
      go_ret
      exact ⟨by rw [HR.out]; simp; try omega, rfl⟩
  · have HR : Hid (pb (TicksOk a b) = false) := pb_no fun h => h1 h.1
    go_enter Try.func43, Try.ntmps43
    go_wp2
    go_ret
    exact ⟨by rw [HR.out]; simp; try omega, rfl⟩

theorem ticks_b (a b : Int) (w : World) (v : Bool) (h : pb (TicksOk a b) = v) :
    Calls Try.prog 43 #[.int .i64 a, .int .i64 b] w fun e w' => e = .returned (.bool v) ∧ w = w' := h ▸ iTicks a b w

set_option maxHeartbeats 1000000 in
theorem iStep (s : DFlyStep) (w : World) :
    Calls Try.prog 40 #[vSt s] w fun e w' => e = .returned (.bool (pb (StepOk s))) ∧ Below w.heap.size w w' := by
  obtain ⟨x, y, lo, hi, fr, up, hd⟩ := s
  simp only [vSt, cSt]
  have HB : Below w.heap.size w (w.alloc (.cells #[.int .i64 x, .int .i64 y, .int .i64 lo, .int .i64 hi, .int .i64 fr, .int .i64 up, .bool hd] 52)) := (Below.refl _ _).alloc (Nat.le_refl _) _
  by_cases h1 : InR x 0 15
  · by_cases h2 : InR y 0 15
    · by_cases h3 : 0 ≤ lo
      · by_cases h4 : lo ≤ hi
        · by_cases h5 : hi ≤ 6
          · obtain ⟨v, hv⟩ : ∃ v, pb (TicksOk fr up) = v := ⟨_, rfl⟩
            have HR : Hid (pb (StepOk (x, y, lo, hi, fr, up, hd)) = v) := by
              show _ = _
              rw [← hv]
              exact pb_same ⟨fun h => h.2.2.2.2.2, fun h => ⟨h1, h2, h3, h4, h5, h⟩⟩
            go_enter Try.func40, Try.ntmps40
            go_wp2_with (first | (go_at_call 39; refine (from_yes _ _ _ _ (by assumption)).mono ?_; rintro e w' ⟨rfl, rfl⟩) | (go_at_call 43; refine (ticks_b _ _ _ _ hv).mono ?_; rintro e w' ⟨rfl, rfl⟩))
            go_ret
            exact ⟨by rw [HR.out]; simp [h3, h4, h5], HB⟩
          · have HR : Hid (pb (StepOk (x, y, lo, hi, fr, up, hd)) = false) := pb_no fun h => h5 h.2.2.2.2.1
            go_enter Try.func40, Try.ntmps40
            go_wp2_with (go_at_call 39; refine (from_yes _ _ _ _ (by assumption)).mono ?_; rintro e w' ⟨rfl, rfl⟩)
            go_ret
            exact ⟨by rw [HR.out]; simp; try omega, HB⟩
        · have HR : Hid (pb (StepOk (x, y, lo, hi, fr, up, hd)) = false) := pb_no fun h => h4 h.2.2.2.1
          go_enter Try.func40, Try.ntmps40
          go_wp2_with (go_at_call 39; refine (from_yes _ _ _ _ (by assumption)).mono ?_; rintro e w' ⟨rfl, rfl⟩)
          go_ret
          exact ⟨by rw [HR.out]; simp; try omega, HB⟩
      · have HR : Hid (pb (StepOk (x, y, lo, hi, fr, up, hd)) = false) := pb_no fun h => h3 h.2.2.1
        go_enter Try.func40, Try.ntmps40
        go_wp2_with (go_at_call 39; refine (from_yes _ _ _ _ (by assumption)).mono ?_; rintro e w' ⟨rfl, rfl⟩)
        go_ret
        exact ⟨by rw [HR.out]; simp; try omega, HB⟩
    · have HR : Hid (pb (StepOk (x, y, lo, hi, fr, up, hd)) = false) := pb_no fun h => h2 h.2.1
      go_enter Try.func40, Try.ntmps40
      go_wp2_with (first | (go_at_call 39; refine (from_yes _ _ _ _ (by assumption)).mono ?_; rintro e w' ⟨rfl, rfl⟩) | (go_at_call 39; refine (from_no _ _ _ _ (by assumption)).mono ?_; rintro e w' ⟨rfl, rfl⟩))
      go_ret
      exact ⟨by rw [HR.out]; first | rfl | simp, HB⟩
  · have HR : Hid (pb (StepOk (x, y, lo, hi, fr, up, hd)) = false) := pb_no fun h => h1 h.1
    go_enter Try.func40, Try.ntmps40
    go_wp2_with (go_at_call 39; refine (from_no _ _ _ _ (by assumption)).mono ?_; rintro e w' ⟨rfl, rfl⟩)
    go_ret
    exact ⟨by rw [HR.out]; first | rfl | simp, HB⟩

end Fly
end Go.Proofs.Ytfjeiegoblaadaa
