/- DERIVED. (impl.FlyStep).window, (impl.flyEnd).window, (impl.FlySpan).has, (impl.FlyStep).stay: their walks. -/
import Derived.Test.YtpjacfnjjkoikaaKFlD
import Derived.Test.YtpjacfnjjkoikaaKFyI5
namespace Go.Proofs.Ytpjacfnjjkoikaa
namespace Fly
open Go.RowKit
set_option linter.unusedSimpArgs false
set_option linter.unusedVariables false

theorem iWinS (s : DFlyStep) (w : World) :
    Calls Try.prog 113 #[vSt s] w fun e w' => e = .returned (.agg #[.int .i64 s.2.2.2.2.1, .int .i64 s.2.2.2.2.2.1]) ∧ Below w.heap.size w w' := by
  obtain ⟨x, y, lo, hi, fr, up, hd⟩ := s
  simp only [vSt, cSt]
  go_enter Try.func113, Try.ntmps113
  go_wp2
  refine bodyPost_ret (v := .agg #[.int .i64 fr, .int .i64 up]) (by simp [results, Try.results113, go_sem]) rfl ⟨rfl, ?_⟩
  repeat (first | exact Below.refl _ _ | refine Below.setCell ?_ (by simp; try omega) _ | refine Below.alloc ?_ (by simp; try omega) _)

theorem iWinE (q s f u : Int) (v : Value) (w : World) :
    Calls Try.prog 114 #[.agg #[.int .i64 q, .int .i64 s, v, .int .i64 f, .int .i64 u]] w fun e w' => e = .returned (.agg #[.int .i64 f, .int .i64 u]) ∧ Below w.heap.size w w' := by
  go_enter Try.func114, Try.ntmps114
  go_wp2
  refine bodyPost_ret (v := .agg #[.int .i64 f, .int .i64 u]) (by simp [results, Try.results114, go_sem]) rfl ⟨rfl, ?_⟩
  repeat (first | exact Below.refl _ _ | refine Below.setCell ?_ (by simp; try omega) _ | refine Below.alloc ?_ (by simp; try omega) _)

theorem iHas (lo hi t : Int) (w : World) :
    Calls Try.prog 95 #[.agg #[.int .i64 lo, .int .i64 hi], .int .i64 t] w fun e w' => e = .returned (.bool (pb (InR t lo hi))) ∧ Below w.heap.size w w' := by
  have HB : Below w.heap.size w (w.alloc (.cells #[.int .i64 lo, .int .i64 hi] 65)) := (Below.refl _ _).alloc (Nat.le_refl _) _
  by_cases h : InR t lo hi
  · have HR : Hid (pb (InR t lo hi) = true) := pb_yes h
    go_enter Try.func95, Try.ntmps95
    go_wp2_with (go_at_call 90; refine (from_yes _ _ _ _ (by assumption)).mono ?_; rintro e w' ⟨rfl, rfl⟩)
    go_ret
    exact ⟨by rw [HR.out]; rfl, HB⟩
  · have HR : Hid (pb (InR t lo hi) = false) := pb_no h
    go_enter Try.func95, Try.ntmps95
    go_wp2_with (go_at_call 90; refine (from_no _ _ _ _ (by assumption)).mono ?_; rintro e w' ⟨rfl, rfl⟩)
    go_ret
    exact ⟨by rw [HR.out]; rfl, HB⟩

theorem iStay (s : DFlyStep) (k : DFlyKind) (w : World) :
    Calls Try.prog 82 #[vSt s, vKi k] w fun e w' => e = .returned (.agg #[.int .i64 k.1, .int .i64 (if s.2.2.2.2.2.2 = true then 10000 else k.2)]) ∧ Below w.heap.size w w' := by
  obtain ⟨x, y, lo, hi, fr, up, hd⟩ := s
  obtain ⟨q, z⟩ := k
  simp only [vSt, cSt, vKi]
  cases hd
  · go_enter Try.func82, Try.ntmps82
    go_wp2
    refine bodyPost_ret (v := .agg #[.int .i64 q, .int .i64 z]) (by simp [results, Try.results82, go_sem]) rfl ⟨rfl, ?_⟩
    repeat (first | exact Below.refl _ _ | refine Below.setCell ?_ (by simp; try omega) _ | refine Below.alloc ?_ (by simp; try omega) _)
  · go_enter Try.func82, Try.ntmps82
    go_wp2
    refine bodyPost_ret (v := .agg #[.int .i64 q, .int .i64 10000]) (by simp [results, Try.results82, go_sem]) rfl ⟨rfl, ?_⟩
    repeat (first | exact Below.refl _ _ | refine Below.setCell ?_ (by simp; try omega) _ | refine Below.alloc ?_ (by simp; try omega) _)

end Fly
end Go.Proofs.Ytpjacfnjjkoikaa
