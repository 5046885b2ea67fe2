/- DERIVED. The specification's small functions over cells: l1In, l6Inside, l6Abs, l6Steps, l6Part: their walks. -/
import Derived.Test.YtcamggfmaphcbaaLg0
namespace Go.Proofs.Ytcamggfmaphcbaa
namespace Leg
open Go.RowKit
set_option linter.unusedSimpArgs false
set_option linter.unusedVariables false

theorem sIn_is (n lo hi : Int) (w : World) (v : Bool) (h : v = decide (lo ≤ n ∧ n ≤ hi)) :
    Calls Try.prog 28 #[.int .i64 n, .int .i64 lo, .int .i64 hi] w fun e w' => e = .returned (.bool v) ∧ w = w' := by
  subst h
  by_cases h1 : lo ≤ n
  · by_cases h2 : n ≤ hi
    · go_enter Try.func28, Try.ntmps28
      go_wp2
      go_ret
      exact ⟨by simp [h1, h2], rfl⟩
    · go_enter Try.func28, Try.ntmps28
      go_wp2
      go_ret
      exact ⟨by simp [h1, h2]; try omega, rfl⟩
  · go_enter Try.func28, Try.ntmps28
    go_wp2
    go_ret
    exact ⟨by simp [h1]; try omega, rfl⟩

set_option maxHeartbeats 1000000 in
theorem sInside (c : DCell) (w : World) :
    Calls Try.prog 20 #[vCe c] w fun e w' => e = .returned (.bool (decide (InLeg c))) ∧ Below w.heap.size w w' := by
  obtain ⟨x, y⟩ := c
  simp only [vCe]
  have HB : Below w.heap.size w (w.alloc (.cells #[.int .i64 x, .int .i64 y] 24)) := (Below.refl _ _).alloc (Nat.le_refl _) _
  by_cases hx : 0 ≤ x ∧ x ≤ 15
  · have HX := fun w => sIn_is x 0 15 w true (by simp [hx])
    obtain ⟨v, hv⟩ : ∃ v, v = decide (0 ≤ y ∧ y ≤ 15) := ⟨_, rfl⟩
    have HY := fun w => sIn_is y 0 15 w v hv
    have e : decide (InLeg (x, y)) = v := by rw [hv]; unfold InLeg; simp [hx]
    rw [e]
    clear e hx hv
    go_enter Try.func20, Try.ntmps20
    go_wp2_with fail
    refine (HX _).mono ?_
    rintro e w' ⟨rfl, rfl⟩
    clear HX
    go_wp2_with fail
    refine (HY _).mono ?_
    rintro e w' ⟨rfl, rfl⟩
    go_wp2
    go_ret
    exact ⟨rfl, HB⟩
  · have HX := fun w => sIn_is x 0 15 w false (by simp [hx])
    have e : decide (InLeg (x, y)) = false := decide_eq_false fun h => hx h.1
    rw [e]
    clear e hx
    go_enter Try.func20, Try.ntmps20
    go_wp2_with fail
    refine (HX _).mono ?_
    rintro e w' ⟨rfl, rfl⟩
    go_wp2
    go_ret
    exact ⟨rfl, HB⟩

theorem sAbs (n d : Int) (w : World) (h : -100 ≤ n ∧ n ≤ 100) (hd : d = if n < 0 then -n else n) :
    Calls Try.prog 29 #[.int .i64 n] w fun e w' => e = .returned (.int .i64 d) ∧ w = w' := by
  obtain ⟨h1, h2⟩ := h
  by_cases hn : n < 0
  · rw [if_pos hn] at hd
    subst hd
    go_enter Try.func29, Try.ntmps29
    go_wp2
    go_ret
    exact ⟨rfl, rfl⟩
  · rw [if_neg hn] at hd
    subst hd
    go_enter Try.func29, Try.ntmps29
    go_wp2
    go_ret
    exact ⟨rfl, rfl⟩

set_option maxHeartbeats 1000000 in
theorem sSteps (a b : DCell) (w : World) (ha : InLeg a) (hb : InLeg b) :
    Calls Try.prog 21 #[vCe a, vCe b] w fun e w' => e = .returned (.int .i64 (stepsOf a b)) ∧ Below w.heap.size w w' := by
  obtain ⟨x, y⟩ := a
  obtain ⟨x', y'⟩ := b
  obtain ⟨⟨hx1, hx2⟩, hy1, hy2⟩ := ha
  obtain ⟨⟨hx1', hx2'⟩, hy1', hy2'⟩ := hb
  simp only [vCe, stepsOf] at *
  have ex : apartOf x x' = if x - x' < 0 then -(x - x') else x - x' := by unfold apartOf; split <;> split <;> omega
  have ey : apartOf y y' = if y - y' < 0 then -(y - y') else y - y' := by unfold apartOf; split <;> split <;> omega
  have HX := fun w => sAbs (x - x') _ w ⟨by omega, by omega⟩ ex
  have HY := fun w => sAbs (y - y') _ w ⟨by omega, by omega⟩ ey
  clear ex ey
  generalize apartOf x x' = d at *
  generalize apartOf y y' = e at *
  obtain ⟨m, hm'⟩ : ∃ m, (if d < e then e else d) = m := ⟨_, rfl⟩
  have hm : Hid ((d > e → m = d) ∧ (d ≤ e → m = e)) := ⟨fun h => by rw [← hm']; split <;> omega, fun h => by rw [← hm']; split <;> omega⟩
  rw [hm']
  clear hm'
  have HB : Below w.heap.size w ((w.alloc (.cells #[.int .i64 x, .int .i64 y] 24)).alloc (.cells #[.int .i64 x', .int .i64 y'] 24)) := (((Below.refl _ _).alloc (Nat.le_refl _) _).alloc (by simp) _)
  go_enter Try.func21, Try.ntmps21
  go_wp2_with fail
  refine (HX _).mono ?_
  rintro e w' ⟨rfl, rfl⟩
  clear HX
  go_wp2_with fail
  refine (HY _).mono ?_
  rintro e w' ⟨rfl, rfl⟩
  clear HY
  by_cases hde : d > e
  · have hmm : Hid (m = d) := hm.out.1 (by omega)
    clear hm
    go_wp2
    go_ret
    exact ⟨by rw [hmm.out]; rfl, HB⟩
  · have hmm : Hid (m = e) := hm.out.2 (by omega)
    clear hm
    go_wp2
    go_ret
    exact ⟨by rw [hmm.out]; rfl, HB⟩

theorem floor_of (v m q : Int) (hm : 0 < m) (h1 : q * m ≤ v) (h2 : v < q * m + m) : v / m = q := by
  apply Int.le_antisymm
  · exact Int.lt_add_one_iff.1 (Int.ediv_lt_of_lt_mul hm (by rw [Int.add_mul]; omega))
  · exact Int.le_ediv_of_mul_le hm h1
theorem tdiv_neg' (v m : Int) (hm : 0 < m) (hv : v < 0) : v ≤ v.tdiv m * m ∧ v.tdiv m * m < v + m := by
  have e : v.tdiv m = -((-v) / m) := by
    have h := Int.neg_tdiv (-v) m
    rw [Int.neg_neg] at h
    rw [h, Int.tdiv_eq_ediv_of_nonneg (by omega)]
  have h1 := Int.ediv_mul_le (-v) (Int.ne_of_gt hm)
  have h2 := Int.lt_ediv_add_one_mul_self (-v) hm
  rw [Int.add_mul] at h2
  rw [e, Int.neg_mul]
  omega

/-- A part, rounded; halves upward. -/
def partOf (d k n : Int) : Int := (2 * k * d + n) / (2 * n)

set_option maxHeartbeats 1000000 in
theorem sPart (d k n : Int) (w : World) (hd : -15 ≤ d ∧ d ≤ 15) (hn : 1 ≤ n ∧ n ≤ 15) (hk : 0 ≤ k ∧ k ≤ n) :
    Calls Try.prog 22 #[.int .i64 d, .int .i64 k, .int .i64 n] w fun e w' => e = .returned (.int .i64 (partOf d k n)) ∧ w = w' := by
  obtain ⟨hd1, hd2⟩ := hd
  obtain ⟨hn1, hn2⟩ := hn
  obtain ⟨hk1, hk2⟩ := hk
  have p1 : 2 * k * d ≤ 450 := by
    have h := Int.mul_le_mul_of_nonneg_left hd2 (by omega : 0 ≤ 2 * k)
    omega
  have p2 : -450 ≤ 2 * k * d := by
    have h := Int.mul_le_mul_of_nonneg_left hd1 (by omega : 0 ≤ 2 * k)
    omega
  by_cases hv : 0 ≤ 2 * k * d + n
  · go_enter Try.func22, Try.ntmps22
    go_wp2
    go_ret
    exact ⟨rfl, rfl⟩
  · obtain ⟨q1, q2⟩ := tdiv_neg' (2 * k * d + n) (2 * n) (by omega) (by omega)
    have HF : Hid (∀ q, q * (2 * n) ≤ 2 * k * d + n → 2 * k * d + n < q * (2 * n) + 2 * n → partOf d k n = q) := fun q h1 h2 => floor_of _ _ q (by omega) h1 h2
    generalize partOf d k n = r at *
    obtain ⟨q, hq⟩ : ∃ q, (2 * k * d + n).tdiv (2 * n) = q := ⟨_, rfl⟩
    rw [hq] at q1 q2
    have e1 : q * 2 * n = q * (2 * n) := Int.mul_assoc q 2 n
    have hq1 : -466 ≤ q := by
      rcases Int.lt_or_le q (-466) with h | h
      · have h3 := Int.mul_le_mul_of_nonneg_right (Int.le_of_lt h) (by omega : 0 ≤ 2 * n)
        omega
      · exact h
    have hq2 : q ≤ 0 := by
      rcases Int.lt_or_le 0 q with h | h
      · have h3 := Int.mul_le_mul_of_nonneg_right (by omega : 1 ≤ q) (by omega : 0 ≤ 2 * n)
        omega
      · exact h
    by_cases hqv : q * 2 * n = 2 * k * d + n
    · have hr : Hid (r = q) := HF.out q (by omega) (by omega)
      have hqb : (q * 2 * n != 2 * k * d + n) = false := by simp [hqv]
      clear HF e1
      go_enter Try.func22, Try.ntmps22
      go_wp2
      go_ret
      exact ⟨by rw [hr.out]; rfl, rfl⟩
    · have hr : Hid (r = q - 1) := HF.out (q - 1) (by rw [Int.sub_mul]; omega) (by rw [Int.sub_mul]; omega)
      have hqb : (q * 2 * n != 2 * k * d + n) = true := by simp [hqv]
      have b1 : q * 2 * n ≤ 1000 := by omega
      have b2 : -1000 ≤ q * 2 * n := by omega
      clear HF e1
      go_enter Try.func22, Try.ntmps22
      go_wp2
      go_ret
      exact ⟨by rw [hr.out]; rfl, rfl⟩

end Leg
end Go.Proofs.Ytcamggfmaphcbaa
