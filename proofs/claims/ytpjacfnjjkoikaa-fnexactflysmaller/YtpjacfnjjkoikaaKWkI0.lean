/- DERIVED. (impl.FlySpan).common, behind, ahead, empty; what FlyFirst and FlyLast pick: their walks. -/
import Derived.Test.YtpjacfnjjkoikaaKWkD
import Derived.Test.YtpjacfnjjkoikaaKWq0
import Derived.Test.YtpjacfnjjkoikaaKFlI0
namespace Go.Proofs.Ytpjacfnjjkoikaa
namespace Fly
open Go.RowKit
set_option linter.unusedSimpArgs false
set_option linter.unusedVariables false


set_option maxHeartbeats 1000000 in
theorem iCommon (a b c d : Int) (w : World) :
    Calls Try.prog 83 #[.agg #[.int .i64 a, .int .i64 b], .agg #[.int .i64 c, .int .i64 d]] w fun e w' => e = .returned (.agg #[.int .i64 (fmx a c), .int .i64 (fmn b d)]) ∧ Below w.heap.size w w' := by
  have H1 : Hid (fmx a c = if a < c then c else a) := rfl
  have H2 : Hid (fmn b d = if b < d then b else d) := rfl
  generalize fmx a c = m at *
  generalize fmn b d = n at *
  rcases Int.lt_trichotomy a c with h1 | h1 | h1
  · have e1 : Hid (m = c) := by have h := H1.out; rw [if_pos h1] at h; exact h
    clear H1
    rcases Int.lt_trichotomy b d with h2 | h2 | h2
    · have e2 : Hid (n = b) := by have h := H2.out; rw [if_pos h2] at h; exact h
      clear H2
      go_enter Try.func83, Try.ntmps83
      go_wp2
      refine bodyPost_ret (v := .agg #[.int .i64 c, .int .i64 b]) (by simp [results, Try.results83, go_sem]) rfl ⟨by rw [e1.out, e2.out], ?_⟩
      repeat (first | exact Below.refl _ _ | refine Below.setCell ?_ (by simp; try omega) _ | refine Below.alloc ?_ (by simp; try omega) _)
    · subst h2
      have e2 : Hid (n = b) := by have h := H2.out; rw [if_neg (Int.lt_irrefl _)] at h; exact h
      clear H2
      go_enter Try.func83, Try.ntmps83
      go_wp2
      refine bodyPost_ret (v := .agg #[.int .i64 c, .int .i64 b]) (by simp [results, Try.results83, go_sem]) rfl ⟨by rw [e1.out, e2.out], ?_⟩
      repeat (first | exact Below.refl _ _ | refine Below.setCell ?_ (by simp; try omega) _ | refine Below.alloc ?_ (by simp; try omega) _)
    · have e2 : Hid (n = d) := by have h := H2.out; rw [if_neg (by omega)] at h; exact h
      clear H2
      go_enter Try.func83, Try.ntmps83
      go_wp2
      refine bodyPost_ret (v := .agg #[.int .i64 c, .int .i64 d]) (by simp [results, Try.results83, go_sem]) rfl ⟨by rw [e1.out, e2.out], ?_⟩
      repeat (first | exact Below.refl _ _ | refine Below.setCell ?_ (by simp; try omega) _ | refine Below.alloc ?_ (by simp; try omega) _)
  · subst h1
    have e1 : Hid (m = a) := by have h := H1.out; rw [if_neg (Int.lt_irrefl _)] at h; exact h
    clear H1
    rcases Int.lt_trichotomy b d with h2 | h2 | h2
    · have e2 : Hid (n = b) := by have h := H2.out; rw [if_pos h2] at h; exact h
      clear H2
      go_enter Try.func83, Try.ntmps83
      go_wp2
      refine bodyPost_ret (v := .agg #[.int .i64 a, .int .i64 b]) (by simp [results, Try.results83, go_sem]) rfl ⟨by rw [e1.out, e2.out], ?_⟩
      repeat (first | exact Below.refl _ _ | refine Below.setCell ?_ (by simp; try omega) _ | refine Below.alloc ?_ (by simp; try omega) _)
    · subst h2
      have e2 : Hid (n = b) := by have h := H2.out; rw [if_neg (Int.lt_irrefl _)] at h; exact h
      clear H2
      go_enter Try.func83, Try.ntmps83
      go_wp2
      refine bodyPost_ret (v := .agg #[.int .i64 a, .int .i64 b]) (by simp [results, Try.results83, go_sem]) rfl ⟨by rw [e1.out, e2.out], ?_⟩
      repeat (first | exact Below.refl _ _ | refine Below.setCell ?_ (by simp; try omega) _ | refine Below.alloc ?_ (by simp; try omega) _)
    · have e2 : Hid (n = d) := by have h := H2.out; rw [if_neg (by omega)] at h; exact h
      clear H2
      go_enter Try.func83, Try.ntmps83
      go_wp2
      refine bodyPost_ret (v := .agg #[.int .i64 a, .int .i64 d]) (by simp [results, Try.results83, go_sem]) rfl ⟨by rw [e1.out, e2.out], ?_⟩
      repeat (first | exact Below.refl _ _ | refine Below.setCell ?_ (by simp; try omega) _ | refine Below.alloc ?_ (by simp; try omega) _)
  · have e1 : Hid (m = a) := by have h := H1.out; rw [if_neg (by omega)] at h; exact h
    clear H1
    rcases Int.lt_trichotomy b d with h2 | h2 | h2
    · have e2 : Hid (n = b) := by have h := H2.out; rw [if_pos h2] at h; exact h
      clear H2
      go_enter Try.func83, Try.ntmps83
      go_wp2
      refine bodyPost_ret (v := .agg #[.int .i64 a, .int .i64 b]) (by simp [results, Try.results83, go_sem]) rfl ⟨by rw [e1.out, e2.out], ?_⟩
      repeat (first | exact Below.refl _ _ | refine Below.setCell ?_ (by simp; try omega) _ | refine Below.alloc ?_ (by simp; try omega) _)
    · subst h2
      have e2 : Hid (n = b) := by have h := H2.out; rw [if_neg (Int.lt_irrefl _)] at h; exact h
      clear H2
      go_enter Try.func83, Try.ntmps83
      go_wp2
      refine bodyPost_ret (v := .agg #[.int .i64 a, .int .i64 b]) (by simp [results, Try.results83, go_sem]) rfl ⟨by rw [e1.out, e2.out], ?_⟩
      repeat (first | exact Below.refl _ _ | refine Below.setCell ?_ (by simp; try omega) _ | refine Below.alloc ?_ (by simp; try omega) _)
    · have e2 : Hid (n = d) := by have h := H2.out; rw [if_neg (by omega)] at h; exact h
      clear H2
      go_enter Try.func83, Try.ntmps83
      go_wp2
      refine bodyPost_ret (v := .agg #[.int .i64 a, .int .i64 d]) (by simp [results, Try.results83, go_sem]) rfl ⟨by rw [e1.out, e2.out], ?_⟩
      repeat (first | exact Below.refl _ _ | refine Below.setCell ?_ (by simp; try omega) _ | refine Below.alloc ?_ (by simp; try omega) _)

theorem iEmpty (s : RFlySpan) (w : World) :
    Calls Try.prog 49 #[.agg #[.int .i64 s.1, .int .i64 s.2]] w fun e w' => e = .returned (.bool (decide (s.2 < s.1))) ∧ Below w.heap.size w w' := by
  obtain ⟨a, b⟩ := s
  simp only
  go_enter Try.func49, Try.ntmps49
  go_wp2
  go_ret
  refine ⟨by simp, ?_⟩
  repeat (first | exact Below.refl _ _ | refine Below.setCell ?_ (by simp; try omega) _ | refine Below.alloc ?_ (by simp; try omega) _)
theorem iPickLow (s : RFlySpan) (w : World) :
    Calls Try.prog 55 #[.agg #[.int .i64 s.1, .int .i64 s.2]] w fun e w' => e = .returned (.int .i64 s.1) ∧ Below w.heap.size w w' := by
  obtain ⟨a, b⟩ := s
  simp only
  go_enter Try.func55, Try.ntmps55
  go_wp2
  go_ret
  refine ⟨rfl, ?_⟩
  repeat (first | exact Below.refl _ _ | refine Below.setCell ?_ (by simp; try omega) _ | refine Below.alloc ?_ (by simp; try omega) _)
theorem iPickHigh (s : RFlySpan) (w : World) :
    Calls Try.prog 56 #[.agg #[.int .i64 s.1, .int .i64 s.2]] w fun e w' => e = .returned (.int .i64 s.2) ∧ Below w.heap.size w w' := by
  obtain ⟨a, b⟩ := s
  simp only
  go_enter Try.func56, Try.ntmps56
  go_wp2
  go_ret
  refine ⟨rfl, ?_⟩
  repeat (first | exact Below.refl _ _ | refine Below.setCell ?_ (by simp; try omega) _ | refine Below.alloc ?_ (by simp; try omega) _)

set_option maxHeartbeats 1000000 in
theorem iBehind (a b : RFlySpan) (q m : Int) (hb : Small b) (hq : 0 ≤ q ∧ q ≤ 10000) (hm : 0 ≤ m ∧ m ≤ 10000) (w : World) :
    Calls Try.prog 45 #[.agg #[.int .i64 a.1, .int .i64 a.2], .agg #[.int .i64 b.1, .int .i64 b.2], .agg #[.int .i64 q, .int .i64 m]] w fun e w' => e = .returned (.agg #[.int .i64 (fwT a b q m).1, .int .i64 (fwT a b q m).2]) ∧ Below w.heap.size w w' := by
  obtain ⟨x, y⟩ := a
  obtain ⟨c, d⟩ := b
  obtain ⟨b1, b2, b3, b4⟩ := hb
  simp only at b1 b2 b3 b4
  have w1 : IntKind.i64.wrap (c + q) = c + q := by rw [IntKind.wrap_i64] <;> omega
  have w2 : IntKind.i64.wrap (d + m) = d + m := by rw [IntKind.wrap_i64] <;> omega
  show Calls _ _ _ _ fun e w' => e = .returned (.agg #[.int .i64 (fmx x (c + q)), .int .i64 (fmn y (d + m))]) ∧ Below w.heap.size w w'
  simp only
  go_enter Try.func45, Try.ntmps45
  go_wp2_with fail
  refine (iCommon _ _ _ _ _).mono ?_
  rintro e w9 ⟨rfl, hb9⟩
  have HB : Hid (Below w.heap.size w w9) := by
    refine Below.trans ?_ (hb9.mono (by simp; omega))
    repeat (first | exact Below.refl _ _ | refine Below.setCell ?_ (by simp; try omega) _ | refine Below.alloc ?_ (by simp; try omega) _)
  have c0 : w9.cell? ⟨w.heap.size + 1 + 1 + 1, 0, none⟩ = some (.int .i64 0) := by rw [hb9.cell (p := ⟨w.heap.size + 1 + 1 + 1, 0, none⟩) (by simp)]; go_simp
  have c1 : w9.cell? ⟨w.heap.size + 1 + 1 + 1, 1, none⟩ = some (.int .i64 0) := by rw [hb9.cell (p := ⟨w.heap.size + 1 + 1 + 1, 1, none⟩) (by simp)]; go_simp
  have f0 : w9.frozen? ⟨w.heap.size + 1 + 1 + 1, 0, none⟩ = false := by rw [hb9.frozen (p := ⟨w.heap.size + 1 + 1 + 1, 0, none⟩) (by simp)]; go_simp
  have f1 : w9.frozen? ⟨w.heap.size + 1 + 1 + 1, 1, none⟩ = false := by rw [hb9.frozen (p := ⟨w.heap.size + 1 + 1 + 1, 1, none⟩) (by simp)]; go_simp
  have hz : w.heap.size + 1 + 1 + 1 < w9.heap.size := by have := hb9.size; simp at this; omega
  clear hb9
  go_wp2
  refine bodyPost_ret (v := .agg #[.int .i64 (fmx x (c + q)), .int .i64 (fmn y (d + m))]) (by simp [results, Try.results45, go_sem, c0, c1, f0, f1]) rfl ⟨rfl, ?_⟩
  exact (HB.out.setCell (p := ⟨w.heap.size + 1 + 1 + 1, 0, none⟩) (by simp; omega) _).setCell (p := ⟨w.heap.size + 1 + 1 + 1, 1, none⟩) (by simp; omega) _

set_option maxHeartbeats 1000000 in
theorem iAhead (a b : RFlySpan) (q m : Int) (hb : Small b) (hq : 0 ≤ q ∧ q ≤ 10000) (hm : 0 ≤ m ∧ m ≤ 10000) (w : World) :
    Calls Try.prog 47 #[.agg #[.int .i64 a.1, .int .i64 a.2], .agg #[.int .i64 b.1, .int .i64 b.2], .agg #[.int .i64 q, .int .i64 m]] w fun e w' => e = .returned (.agg #[.int .i64 (bkT a b q m).1, .int .i64 (bkT a b q m).2]) ∧ Below w.heap.size w w' := by
  obtain ⟨x, y⟩ := a
  obtain ⟨c, d⟩ := b
  obtain ⟨b1, b2, b3, b4⟩ := hb
  simp only at b1 b2 b3 b4
  have w1 : IntKind.i64.wrap (c - m) = c - m := by rw [IntKind.wrap_i64] <;> omega
  have w2 : IntKind.i64.wrap (d - q) = d - q := by rw [IntKind.wrap_i64] <;> omega
  show Calls _ _ _ _ fun e w' => e = .returned (.agg #[.int .i64 (fmx x (c - m)), .int .i64 (fmn y (d - q))]) ∧ Below w.heap.size w w'
  simp only
  go_enter Try.func47, Try.ntmps47
  go_wp2_with fail
  refine (iCommon _ _ _ _ _).mono ?_
  rintro e w9 ⟨rfl, hb9⟩
  have HB : Hid (Below w.heap.size w w9) := by
    refine Below.trans ?_ (hb9.mono (by simp; omega))
    repeat (first | exact Below.refl _ _ | refine Below.setCell ?_ (by simp; try omega) _ | refine Below.alloc ?_ (by simp; try omega) _)
  have c0 : w9.cell? ⟨w.heap.size + 1 + 1 + 1, 0, none⟩ = some (.int .i64 0) := by rw [hb9.cell (p := ⟨w.heap.size + 1 + 1 + 1, 0, none⟩) (by simp)]; go_simp
  have c1 : w9.cell? ⟨w.heap.size + 1 + 1 + 1, 1, none⟩ = some (.int .i64 0) := by rw [hb9.cell (p := ⟨w.heap.size + 1 + 1 + 1, 1, none⟩) (by simp)]; go_simp
  have f0 : w9.frozen? ⟨w.heap.size + 1 + 1 + 1, 0, none⟩ = false := by rw [hb9.frozen (p := ⟨w.heap.size + 1 + 1 + 1, 0, none⟩) (by simp)]; go_simp
  have f1 : w9.frozen? ⟨w.heap.size + 1 + 1 + 1, 1, none⟩ = false := by rw [hb9.frozen (p := ⟨w.heap.size + 1 + 1 + 1, 1, none⟩) (by simp)]; go_simp
  have hz : w.heap.size + 1 + 1 + 1 < w9.heap.size := by have := hb9.size; simp at this; omega
  clear hb9
  go_wp2
  refine bodyPost_ret (v := .agg #[.int .i64 (fmx x (c - m)), .int .i64 (fmn y (d - q))]) (by simp [results, Try.results47, go_sem, c0, c1, f0, f1]) rfl ⟨rfl, ?_⟩
  exact (HB.out.setCell (p := ⟨w.heap.size + 1 + 1 + 1, 0, none⟩) (by simp; omega) _).setCell (p := ⟨w.heap.size + 1 + 1 + 1, 1, none⟩) (by simp; omega) _

end Fly
end Go.Proofs.Ytpjacfnjjkoikaa
