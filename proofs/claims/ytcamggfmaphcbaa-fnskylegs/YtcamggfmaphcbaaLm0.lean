/- DERIVED. Legs on plain data: as many cells as steps and one, first and last, how near to the straight line, each next to the one ahead of it; and back. -/
import Derived.Test.YtcamggfmaphcbaaLw0
namespace Go.Proofs.Ytcamggfmaphcbaa
namespace Leg
set_option linter.unusedSimpArgs false
set_option linter.unusedVariables false

theorem near_D (n f t k : Int) (hn : 1 ≤ n) : -n < 2 * n * (nearOf n f t k - f) - 2 * k * (t - f) ∧ 2 * n * (nearOf n f t k - f) - 2 * k * (t - f) ≤ n := by
  rw [near_part n f t k hn]
  unfold partOf
  have h1 := Int.ediv_mul_le (2 * k * (t - f) + n) (b := 2 * n) (by omega)
  have h2 := Int.lt_ediv_add_one_mul_self (2 * k * (t - f) + n) (b := 2 * n) (by omega)
  rw [Int.add_mul] at h2
  generalize (2 * k * (t - f) + n) / (2 * n) = q at *
  have e : f + q - f = q := by omega
  rw [e, Int.mul_comm (2 * n) q]
  omega
theorem near_end (n f t : Int) (hn : 1 ≤ n) : nearOf n f t n = t := by
  unfold nearOf
  rw [if_neg (by omega)]
  have e : 2 * (f * n + (t - f) * n) + n = n + t * (2 * n) := by
    rw [← Int.add_mul, show f + (t - f) = t by omega, Int.mul_left_comm t 2 n]
    omega
  rw [e, Int.add_mul_ediv_right n t (by omega), Int.ediv_eq_zero_of_lt (by omega) (by omega)]
  omega

/-- A cell behind i of n steps from a to b: how near it is to the straight line; its numbers. -/
structure CellOk (n a b i c : Int) : Prop where
  lo : -n < 2 * n * (c - a) - 2 * i * (b - a)
  hi : 2 * n * (c - a) - 2 * i * (b - a) ≤ n
  r1 : -20 ≤ c
  r2 : c ≤ 40

theorem ok_forth (n f t k : Int) (hf : 0 ≤ f ∧ f ≤ 15) (ht : 0 ≤ t ∧ t ≤ 15) (hn : 1 ≤ n ∧ n ≤ 15) (hk : 0 ≤ k ∧ k ≤ n) : CellOk n f t k (nearOf n f t k) := by
  obtain ⟨h1, h2⟩ := near_D n f t k hn.1
  have h3 := near_in n f t k hf ht hn hk
  have h4 := near_part n f t k hn.1
  exact ⟨h1, h2, by omega, by omega⟩
theorem ok_back (n f t k : Int) (hf : 0 ≤ f ∧ f ≤ 15) (ht : 0 ≤ t ∧ t ≤ 15) (hn : 1 ≤ n ∧ n ≤ 15) (hk : 0 ≤ k ∧ k ≤ n) : CellOk n f t k (nearOf n t f (n - k)) := by
  obtain ⟨h1, h2⟩ := near_D n t f (n - k) hn.1
  have h3 := near_in n t f (n - k) ht hf hn ⟨by omega, by omega⟩
  have h4 := near_part n t f (n - k) hn.1
  generalize nearOf n t f (n - k) = c at *
  have e : 2 * n * (c - f) - 2 * k * (t - f) = 2 * n * (c - t) - 2 * (n - k) * (f - t) := by
    have e1 : 2 * n * (c - f) = 2 * n * (c - t) + 2 * n * (t - f) := by rw [← Int.mul_add]; congr 1; omega
    have e2 : 2 * (n - k) * (f - t) = 2 * n * (f - t) - 2 * k * (f - t) := by rw [← Int.sub_mul]; congr 1; omega
    have e3 : 2 * n * (f - t) = -(2 * n * (t - f)) := by rw [← Int.mul_neg]; congr 1; omega
    have e4 : 2 * k * (f - t) = -(2 * k * (t - f)) := by rw [← Int.mul_neg]; congr 1; omega
    omega
  exact ⟨by rw [e]; exact h1, by rw [e]; exact h2, by omega, by omega⟩

/-- Two that follow each other are at most one apart; just one, where the whole way is as long as the steps. -/
theorem ok_next {n a b i c d : Int} (hn : 1 ≤ n) (h : CellOk n a b i c) (k : CellOk n a b (i + 1) d) (hd : apartOf a b ≤ n) : apartOf c d ≤ 1 ∧ (apartOf a b = n → apartOf c d = 1) := by
  have e : 2 * n * (d - c) = (2 * n * (d - a) - 2 * (i + 1) * (b - a)) - (2 * n * (c - a) - 2 * i * (b - a)) + 2 * (b - a) := by
    have e1 : 2 * n * (d - a) = 2 * n * (d - c) + 2 * n * (c - a) := by rw [← Int.mul_add]; congr 1; omega
    have e2 : 2 * (i + 1) * (b - a) = 2 * i * (b - a) + 2 * (b - a) := by rw [← Int.add_mul]; congr 1; omega
    omega
  have h1 := h.lo
  have h2 := h.hi
  have k1 := k.lo
  have k2 := k.hi
  have hb : -n ≤ b - a ∧ b - a ≤ n := by unfold apartOf at hd; split at hd <;> omega
  have p1 : 2 * n * (d - c) < 2 * n * 2 := by omega
  have p2 : 2 * n * (-2) < 2 * n * (d - c) := by omega
  have q1 : d - c < 2 := Int.lt_of_mul_lt_mul_left p1 (by omega)
  have q2 : -2 < d - c := Int.lt_of_mul_lt_mul_left p2 (by omega)
  refine ⟨by unfold apartOf; split <;> omega, fun he => ?_⟩
  have hne : d - c ≠ 0 := fun h0 => by
    rw [h0, Int.mul_zero] at e
    unfold apartOf at he
    split at he <;> omega
  unfold apartOf
  split <;> omega

/-- The cells of a leg. -/
theorem leg_ok (a b : DCell) (ha : InLeg a) (hb : InLeg b) : ∃ n : Nat, stepsOf a b = (n : Int) ∧ n ≤ 15 ∧ (legOf a b).length = n + 1 ∧ (∀ h : 0 < (legOf a b).length, (legOf a b)[0]'h = a) ∧ (∀ h : n < (legOf a b).length, (legOf a b)[n]'h = b) ∧
    (1 ≤ n → ∀ i (h : i < (legOf a b).length), CellOk n a.1 b.1 i ((legOf a b)[i]'h).1 ∧ CellOk n a.2 b.2 i ((legOf a b)[i]'h).2) := by
  have hs := steps_le ha hb
  obtain ⟨n, hn⟩ : ∃ n : Nat, stepsOf a b = (n : Int) := ⟨(stepsOf a b).toNat, by omega⟩
  refine ⟨n, hn, by omega, ?_⟩
  by_cases h0 : n = 0
  · subst h0
    have hx : a = b := by
      obtain ⟨x, y⟩ := a
      obtain ⟨x', y'⟩ := b
      unfold stepsOf at hn
      simp only at hn
      have e1 : apartOf x x' = 0 ∧ apartOf y y' = 0 := by
        have := apart_le ha.1 hb.1
        have := apart_le ha.2 hb.2
        simp only at *
        split at hn <;> omega
      have e2 : x = x' := by have := e1.1; unfold apartOf at this; split at this <;> omega
      have e3 : y = y' := by have := e1.2; unfold apartOf at this; split at this <;> omega
      rw [e2, e3]
    subst hx
    have e : legOf a a = [a] := by
      rw [leg_yes ha ha (.inr ⟨rfl, Int.le_refl _⟩)]
      unfold legUp
      rw [hn]
      show [cellOf 0 a a 0] = [a]
      simp [cellOf, nearOf]
    exact ⟨by rw [e]; rfl, fun h => by simp [e], fun h => by simp [e], fun h => by omega⟩
  · have hn1 : (1 : Int) ≤ (n : Int) ∧ (n : Int) ≤ 15 := ⟨by omega, by omega⟩
    by_cases hl : Lesser a b
    · have e : legOf a b = (List.range (n + 1)).map fun (j : Nat) => cellOf (n : Int) a b (j : Int) := by rw [leg_yes ha hb hl, legUp, hn]; rfl
      have eg : ∀ i (h : i < (legOf a b).length), (legOf a b)[i]'h = cellOf (n : Int) a b (i : Int) := fun i h => by simp [e]
      have el : (legOf a b).length = n + 1 := by rw [e]; simp
      refine ⟨el, fun h => ?_, fun h => ?_, fun _ i h => ?_⟩
      · rw [eg 0 h]
        show (nearOf _ _ _ 0, nearOf _ _ _ 0) = a
        rw [near_zero _ _ _ (by omega), near_zero _ _ _ (by omega)]
      · rw [eg n h]
        show (nearOf _ _ _ _, nearOf _ _ _ _) = b
        rw [near_end _ _ _ hn1.1, near_end _ _ _ hn1.1]
      · rw [eg i h]
        exact ⟨ok_forth _ _ _ _ ha.1 hb.1 hn1 ⟨by omega, by omega⟩, ok_forth _ _ _ _ ha.2 hb.2 hn1 ⟨by omega, by omega⟩⟩
    · have e : legOf a b = (List.range (n + 1)).map fun (j : Nat) => cellOf (n : Int) b a ((n : Int) - (j : Int)) := by
        rw [leg_back ha hb hl, legUp, steps_comm b a, hn, rev_range n (fun k => cellOf (n : Int) b a k)]
        rfl
      have eg : ∀ i (h : i < (legOf a b).length), (legOf a b)[i]'h = cellOf (n : Int) b a ((n : Int) - (i : Int)) := fun i h => by simp [e]
      have el : (legOf a b).length = n + 1 := by rw [e]; simp
      refine ⟨el, fun h => ?_, fun h => ?_, fun _ i h => ?_⟩
      · rw [eg 0 h]
        show (nearOf _ _ _ ((n : Int) - 0), nearOf _ _ _ ((n : Int) - 0)) = a
        rw [Int.sub_zero, near_end _ _ _ hn1.1, near_end _ _ _ hn1.1]
      · rw [eg n h]
        show (nearOf _ _ _ ((n : Int) - n), nearOf _ _ _ ((n : Int) - n)) = b
        rw [Int.sub_self, near_zero _ _ _ (by omega), near_zero _ _ _ (by omega)]
      · rw [eg i h]
        exact ⟨ok_back _ _ _ _ ha.1 hb.1 hn1 ⟨by omega, by omega⟩, ok_back _ _ _ _ ha.2 hb.2 hn1 ⟨by omega, by omega⟩⟩

theorem leg_none (a b : DCell) (h : ¬ (InLeg a ∧ InLeg b)) : legOf a b = [] := by unfold legOf; exact if_neg h

/-- The leg back. -/
theorem leg_rev (a b : DCell) : legOf b a = (legOf a b).reverse := by
  by_cases ha : InLeg a
  · by_cases hb : InLeg b
    · by_cases h : Lesser a b
      · by_cases k : Lesser b a
        · have e : a = b := by
            obtain ⟨x, y⟩ := a
            obtain ⟨x', y'⟩ := b
            unfold Lesser at h k
            simp only at h k
            have e1 : x = x' := by omega
            have e2 : y = y' := by omega
            rw [e1, e2]
          subst e
          have e0 : stepsOf a a = 0 := by simp [stepsOf, apartOf]
          have e1 : legUp a a = [cellOf 0 a a 0] := by unfold legUp; rw [e0]; rfl
          rw [leg_yes ha ha h, e1]
          rfl
        · rw [leg_back hb ha k, leg_yes ha hb h]
      · have k : Lesser b a := by unfold Lesser at h ⊢; omega
        rw [leg_yes hb ha k, leg_back ha hb h, List.reverse_reverse]
    · rw [leg_none _ _ (fun h => hb h.1), leg_none _ _ (fun h => hb h.2)]
      rfl
  · rw [leg_none _ _ (fun h => ha h.2), leg_none _ _ (fun h => ha h.1)]
    rfl

theorem steps_one {n : Int} {a b c d : DCell} {i : Int} (ha : InLeg a) (hb : InLeg b) (hs : stepsOf a b = n) (hn : 1 ≤ n) (hx : CellOk n a.1 b.1 i c.1) (hy : CellOk n a.2 b.2 i c.2) (kx : CellOk n a.1 b.1 (i + 1) d.1) (ky : CellOk n a.2 b.2 (i + 1) d.2) : stepsOf c d = 1 := by
  have e : apartOf a.1 b.1 ≤ n ∧ apartOf a.2 b.2 ≤ n ∧ (apartOf a.1 b.1 = n ∨ apartOf a.2 b.2 = n) := by
    unfold stepsOf at hs
    split at hs <;> omega
  obtain ⟨p1, p2⟩ := ok_next hn hx kx e.1
  obtain ⟨q1, q2⟩ := ok_next hn hy ky e.2.1
  unfold stepsOf
  rcases e.2.2 with h | h
  · have := p2 h
    split <;> omega
  · have := q2 h
    split <;> omega

end Leg
end Go.Proofs.Ytcamggfmaphcbaa
