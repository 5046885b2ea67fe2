/- DERIVED. Kinds, steps of flying: the specification's small functions, walked (written by wip/tools/mk_fys0.py). -/
import Derived.Test.YtpjacfnjjkoikaaKFyD
import Derived.Deep.QuietTactic
import Derived.BigQuiet
namespace Go.Proofs.Ytpjacfnjjkoikaa
namespace Fly
open Go.RowKit
set_option linter.unusedSimpArgs false
set_option linter.unusedVariables false

theorem sin_yes (n lo hi : Int) (w : World) (h : InR n lo hi) :
    Calls Try.prog 68 #[.int .i64 n, .int .i64 lo, .int .i64 hi] w fun e w' => e = .returned (.bool true) ∧ w = w' := by
  obtain ⟨h1, h2⟩ := h
  go_enter Try.func68, Try.ntmps68
  go_wp2
  go_ret
  exact ⟨by simp [h1, h2], rfl⟩

theorem sin_no (n lo hi : Int) (w : World) (h : ¬ InR n lo hi) :
    Calls Try.prog 68 #[.int .i64 n, .int .i64 lo, .int .i64 hi] w fun e w' => e = .returned (.bool false) ∧ w = w' := by
  by_cases h1 : lo ≤ n
  · have h2 : ¬ n ≤ hi := fun h2 => h ⟨h1, h2⟩
    clear h
    go_enter Try.func68, Try.ntmps68
    go_wp2
    go_ret
    exact ⟨by simp [h2]; try omega, rfl⟩
  · clear h
    go_enter Try.func68, Try.ntmps68
    go_wp2
    go_ret
    exact ⟨by simp [h1]; try omega, rfl⟩

theorem sin_b (n lo hi : Int) (w : World) (v : Bool) (h : pb (InR n lo hi) = v) :
    Calls Try.prog 68 #[.int .i64 n, .int .i64 lo, .int .i64 hi] w fun e w' => e = .returned (.bool v) ∧ w = w' := by
  by_cases h1 : InR n lo hi
  · rw [← h, pb_yes h1]; exact sin_yes n lo hi w h1
  · rw [← h, pb_no h1]; exact sin_no n lo hi w h1

theorem sKindOk (k : DFlyKind) (w : World) :
    Calls Try.prog 67 #[vKi k] w fun e w' => e = .returned (.bool (pb (KindOk k))) ∧ Below w.heap.size w w' := by
  obtain ⟨q, s⟩ := k
  simp only [vKi]
  have HB : Below w.heap.size w (w.alloc (.cells #[.int .i64 q, .int .i64 s] 31)) := (Below.refl _ _).alloc (Nat.le_refl _) _
  by_cases h1 : InR q 1 s
  · by_cases h2 : s ≤ 50
    · have HR : Hid (pb (KindOk (q, s)) = true) := pb_yes ⟨h1.1, h1.2, h2⟩
      go_enter Try.func67, Try.ntmps67
      go_wp2_with (first | (go_at_call 68; refine (sin_yes _ _ _ _ (by assumption)).mono ?_; rintro e w' ⟨rfl, rfl⟩) | (go_at_call 68; refine (sin_no _ _ _ _ (by assumption)).mono ?_; rintro e w' ⟨rfl, rfl⟩))
      go_ret
      exact ⟨by rw [HR.out]; first | rfl | (simp; done) | (simp; omega), HB⟩
    · have HR : Hid (pb (KindOk (q, s)) = false) := pb_no fun h => h2 (h.2.2)
      go_enter Try.func67, Try.ntmps67
      go_wp2_with (first | (go_at_call 68; refine (sin_yes _ _ _ _ (by assumption)).mono ?_; rintro e w' ⟨rfl, rfl⟩) | (go_at_call 68; refine (sin_no _ _ _ _ (by assumption)).mono ?_; rintro e w' ⟨rfl, rfl⟩))
      go_ret
      exact ⟨by rw [HR.out]; first | rfl | (simp; done) | (simp; omega), HB⟩
  · have HR : Hid (pb (KindOk (q, s)) = false) := pb_no fun h => h1 (⟨h.1, h.2.1⟩)
    go_enter Try.func67, Try.ntmps67
    go_wp2_with (first | (go_at_call 68; refine (sin_yes _ _ _ _ (by assumption)).mono ?_; rintro e w' ⟨rfl, rfl⟩) | (go_at_call 68; refine (sin_no _ _ _ _ (by assumption)).mono ?_; rintro e w' ⟨rfl, rfl⟩))
    go_ret
    exact ⟨by rw [HR.out]; first | rfl | (simp; done) | (simp; omega), HB⟩

set_option maxHeartbeats 1000000 in
theorem sStep (s : DFlyStep) (w : World) :
    Calls Try.prog 69 #[vSt s] w fun e w' => e = .returned (.bool (pb (StepOk s))) ∧ Below w.heap.size w w' := by
  obtain ⟨x, y, lo, hi, fr, up, hd⟩ := s
  simp only [vSt, cSt]
  have HB : Below w.heap.size w (w.alloc (.cells #[.int .i64 x, .int .i64 y, .int .i64 lo, .int .i64 hi, .int .i64 fr, .int .i64 up, .bool hd] 76)) := (Below.refl _ _).alloc (Nat.le_refl _) _
  by_cases h1 : InR x 0 15
  · by_cases h2 : InR y 0 15
    · by_cases h3 : InR lo 0 hi
      · by_cases h4 : hi ≤ 6
        · by_cases h5 : InR fr 0 up
          · by_cases h6 : up ≤ 10000
            · have HR : Hid (pb (StepOk (x, y, lo, hi, fr, up, hd)) = true) := pb_yes ⟨h1, h2, h3.1, h3.2, h4, h5.1, h5.2, h6⟩
              go_enter Try.func69, Try.ntmps69
              go_wp2_with (first | (go_at_call 68; refine (sin_yes _ _ _ _ (by assumption)).mono ?_; rintro e w' ⟨rfl, rfl⟩) | (go_at_call 68; refine (sin_no _ _ _ _ (by assumption)).mono ?_; rintro e w' ⟨rfl, rfl⟩))
              go_ret
              exact ⟨by rw [HR.out]; first | rfl | (simp; done) | (simp; omega), HB⟩
            · have HR : Hid (pb (StepOk (x, y, lo, hi, fr, up, hd)) = false) := pb_no fun h => h6 (h.2.2.2.2.2.2.2)
              go_enter Try.func69, Try.ntmps69
              go_wp2_with (first | (go_at_call 68; refine (sin_yes _ _ _ _ (by assumption)).mono ?_; rintro e w' ⟨rfl, rfl⟩) | (go_at_call 68; refine (sin_no _ _ _ _ (by assumption)).mono ?_; rintro e w' ⟨rfl, rfl⟩))
              go_ret
              exact ⟨by rw [HR.out]; first | rfl | (simp; done) | (simp; omega), HB⟩
          · have HR : Hid (pb (StepOk (x, y, lo, hi, fr, up, hd)) = false) := pb_no fun h => h5 (⟨h.2.2.2.2.2.1, h.2.2.2.2.2.2.1⟩)
            go_enter Try.func69, Try.ntmps69
            go_wp2_with (first | (go_at_call 68; refine (sin_yes _ _ _ _ (by assumption)).mono ?_; rintro e w' ⟨rfl, rfl⟩) | (go_at_call 68; refine (sin_no _ _ _ _ (by assumption)).mono ?_; rintro e w' ⟨rfl, rfl⟩))
            go_ret
            exact ⟨by rw [HR.out]; first | rfl | (simp; done) | (simp; omega), HB⟩
        · have HR : Hid (pb (StepOk (x, y, lo, hi, fr, up, hd)) = false) := pb_no fun h => h4 (h.2.2.2.2.1)
          go_enter Try.func69, Try.ntmps69
          go_wp2_with (first | (go_at_call 68; refine (sin_yes _ _ _ _ (by assumption)).mono ?_; rintro e w' ⟨rfl, rfl⟩) | (go_at_call 68; refine (sin_no _ _ _ _ (by assumption)).mono ?_; rintro e w' ⟨rfl, rfl⟩))
          go_ret
          exact ⟨by rw [HR.out]; first | rfl | (simp; done) | (simp; omega), HB⟩
      · have HR : Hid (pb (StepOk (x, y, lo, hi, fr, up, hd)) = false) := pb_no fun h => h3 (⟨h.2.2.1, h.2.2.2.1⟩)
        go_enter Try.func69, Try.ntmps69
        go_wp2_with (first | (go_at_call 68; refine (sin_yes _ _ _ _ (by assumption)).mono ?_; rintro e w' ⟨rfl, rfl⟩) | (go_at_call 68; refine (sin_no _ _ _ _ (by assumption)).mono ?_; rintro e w' ⟨rfl, rfl⟩))
        go_ret
        exact ⟨by rw [HR.out]; first | rfl | (simp; done) | (simp; omega), HB⟩
    · have HR : Hid (pb (StepOk (x, y, lo, hi, fr, up, hd)) = false) := pb_no fun h => h2 (h.2.1)
      go_enter Try.func69, Try.ntmps69
      go_wp2_with (first | (go_at_call 68; refine (sin_yes _ _ _ _ (by assumption)).mono ?_; rintro e w' ⟨rfl, rfl⟩) | (go_at_call 68; refine (sin_no _ _ _ _ (by assumption)).mono ?_; rintro e w' ⟨rfl, rfl⟩))
      go_ret
      exact ⟨by rw [HR.out]; first | rfl | (simp; done) | (simp; omega), HB⟩
  · have HR : Hid (pb (StepOk (x, y, lo, hi, fr, up, hd)) = false) := pb_no fun h => h1 (h.1)
    go_enter Try.func69, Try.ntmps69
    go_wp2_with (first | (go_at_call 68; refine (sin_yes _ _ _ _ (by assumption)).mono ?_; rintro e w' ⟨rfl, rfl⟩) | (go_at_call 68; refine (sin_no _ _ _ _ (by assumption)).mono ?_; rintro e w' ⟨rfl, rfl⟩))
    go_ret
    exact ⟨by rw [HR.out]; first | rfl | (simp; done) | (simp; omega), HB⟩

set_option maxHeartbeats 2000000 in
theorem sNext (a b : DFlyStep) (w : World) (ha : StepOk a) (hb : StepOk b) :
    Calls Try.prog 70 #[vSt a, vSt b] w fun e w' => e = .returned (.bool (pb (StepBy a b))) ∧ Below w.heap.size w w' := by
  obtain ⟨x, y, lo, hi, fr, up, hd⟩ := a
  obtain ⟨x', y', lo', hi', fr', up', hd'⟩ := b
  obtain ⟨⟨ha1, ha2⟩, ⟨ha3, ha4⟩, _⟩ := ha
  obtain ⟨⟨hb1, hb2⟩, ⟨hb3, hb4⟩, _⟩ := hb
  simp only [vSt, cSt] at *
  have HB : Below w.heap.size w ((w.alloc (.cells #[.int .i64 x, .int .i64 y, .int .i64 lo, .int .i64 hi, .int .i64 fr, .int .i64 up, .bool hd] 76)).alloc (.cells #[.int .i64 x', .int .i64 y', .int .i64 lo', .int .i64 hi', .int .i64 fr', .int .i64 up', .bool hd'] 76)) := ((Below.refl _ _).alloc (Nat.le_refl _) _).alloc (by simp) _
  by_cases h3 : x = x' ∧ y = y'
  · obtain ⟨rfl, rfl⟩ := h3
    have h1 : InR (x - x) (-1) 1 := ⟨by omega, by omega⟩
    have h2 : InR (y - y) (-1) 1 := ⟨by omega, by omega⟩
    have h1' : InR 0 (-1) 1 := ⟨by omega, by omega⟩
    have HR : Hid (pb (StepBy (x, y, lo, hi, fr, up, hd) (x, y, lo', hi', fr', up', hd')) = false) := pb_no fun h => by rcases h.2.2.1 with h | h <;> exact h rfl
    go_enter Try.func70, Try.ntmps70
    go_wp2_with (first | (go_at_call 68; refine (sin_yes _ _ _ _ (by assumption)).mono ?_; rintro e w' ⟨rfl, rfl⟩) | (go_at_call 68; refine (sin_no _ _ _ _ (by assumption)).mono ?_; rintro e w' ⟨rfl, rfl⟩))
    go_ret
    exact ⟨by rw [HR.out]; first | rfl | (simp; done) | (simp; omega), HB⟩
  · have HNE : x ≠ x' ∨ y ≠ y' := by omega
    obtain ⟨v, hv⟩ : ∃ v, v = pb (StepBy (x, y, lo, hi, fr, up, hd) (x', y', lo', hi', fr', up', hd')) := ⟨_, rfl⟩
    rw [← hv]
    clear h3
    by_cases h1 : InR (x - x') (-1) 1
    · by_cases h2 : InR (y - y') (-1) 1
      · by_cases h3 : lo ≤ hi'
        · by_cases h4 : lo' ≤ hi
          · have HR : Hid (v = true) := hv.trans <| pb_yes ⟨h1, h2, HNE, h3, h4⟩
            clear hv
            go_enter Try.func70, Try.ntmps70
            go_wp2_with (first | (go_at_call 68; refine (sin_yes _ _ _ _ (by assumption)).mono ?_; rintro e w' ⟨rfl, rfl⟩) | (go_at_call 68; refine (sin_no _ _ _ _ (by assumption)).mono ?_; rintro e w' ⟨rfl, rfl⟩))
            all_goals (first | (exfalso; omega) | (go_ret; exact ⟨by rw [HR.out]; first | rfl | (simp; done) | (simp; omega), ((Below.refl _ _).alloc (Nat.le_refl _) _).alloc (by simp) _⟩))
          · have HR : Hid (v = false) := hv.trans <| pb_no fun h => h4 (h.2.2.2.2)
            clear hv
            go_enter Try.func70, Try.ntmps70
            go_wp2_with (first | (go_at_call 68; refine (sin_yes _ _ _ _ (by assumption)).mono ?_; rintro e w' ⟨rfl, rfl⟩) | (go_at_call 68; refine (sin_no _ _ _ _ (by assumption)).mono ?_; rintro e w' ⟨rfl, rfl⟩))
            all_goals (first | (exfalso; omega) | (go_ret; exact ⟨by rw [HR.out]; first | rfl | (simp; done) | (simp; omega), ((Below.refl _ _).alloc (Nat.le_refl _) _).alloc (by simp) _⟩))
        · have HR : Hid (v = false) := hv.trans <| pb_no fun h => h3 (h.2.2.2.1)
          clear hv
          go_enter Try.func70, Try.ntmps70
          go_wp2_with (first | (go_at_call 68; refine (sin_yes _ _ _ _ (by assumption)).mono ?_; rintro e w' ⟨rfl, rfl⟩) | (go_at_call 68; refine (sin_no _ _ _ _ (by assumption)).mono ?_; rintro e w' ⟨rfl, rfl⟩))
          all_goals (first | (exfalso; omega) | (go_ret; exact ⟨by rw [HR.out]; first | rfl | (simp; done) | (simp; omega), ((Below.refl _ _).alloc (Nat.le_refl _) _).alloc (by simp) _⟩))
      · have HR : Hid (v = false) := hv.trans <| pb_no fun h => h2 (h.2.1)
        clear hv
        go_enter Try.func70, Try.ntmps70
        go_wp2_with (first | (go_at_call 68; refine (sin_yes _ _ _ _ (by assumption)).mono ?_; rintro e w' ⟨rfl, rfl⟩) | (go_at_call 68; refine (sin_no _ _ _ _ (by assumption)).mono ?_; rintro e w' ⟨rfl, rfl⟩))
        all_goals (first | (exfalso; omega) | (go_ret; exact ⟨by rw [HR.out]; first | rfl | (simp; done) | (simp; omega), ((Below.refl _ _).alloc (Nat.le_refl _) _).alloc (by simp) _⟩))
    · have HR : Hid (v = false) := hv.trans <| pb_no fun h => h1 (h.1)
      clear hv
      go_enter Try.func70, Try.ntmps70
      go_wp2_with (first | (go_at_call 68; refine (sin_yes _ _ _ _ (by assumption)).mono ?_; rintro e w' ⟨rfl, rfl⟩) | (go_at_call 68; refine (sin_no _ _ _ _ (by assumption)).mono ?_; rintro e w' ⟨rfl, rfl⟩))
      all_goals (first | (exfalso; omega) | (go_ret; exact ⟨by rw [HR.out]; first | rfl | (simp; done) | (simp; omega), ((Below.refl _ _).alloc (Nat.le_refl _) _).alloc (by simp) _⟩))

end Fly
end Go.Proofs.Ytpjacfnjjkoikaa
