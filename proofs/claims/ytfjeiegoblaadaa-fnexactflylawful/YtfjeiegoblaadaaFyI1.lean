/- DERIVED. (impl.FlyStep).follows: its walk. -/
import Derived.Test.YtfjeiegoblaadaaFyI0
namespace Go.Proofs.Ytfjeiegoblaadaa
namespace Fly
open Go.RowKit
set_option linter.unusedSimpArgs false
set_option linter.unusedVariables false

theorem dist_d (a b d : Int) (w : World) (ha : Whole a) (hb : Whole b) (hd : apartOf a b = d) :
    Calls Try.prog 49 #[.int .i64 a, .int .i64 b] w fun e w' => e = .returned (.int .u64 d) ∧ w = w' := hd ▸ dist_any a b w ha hb

set_option maxHeartbeats 4000000 in
theorem iFollows (a b : DFlyStep) (w : World) (ha : StepOk a) (hb : StepOk b) :
    Calls Try.prog 42 #[vSt b, vSt a] w fun e w' => e = .returned (.bool (pb (StepBy a b))) ∧ Below w.heap.size w w' := by
  obtain ⟨x, y, lo, hi, fr, up, hd⟩ := a
  obtain ⟨x', y', lo', hi', fr', up', hd'⟩ := b
  obtain ⟨⟨ha1, ha2⟩, ⟨ha3, ha4⟩, ha5, ha6, ha7, _⟩ := ha
  obtain ⟨⟨hb1, hb2⟩, ⟨hb3, hb4⟩, hb5, hb6, hb7, _⟩ := hb
  simp only [vSt, cSt] at *
  have wx : Whole x := ⟨by omega, by omega⟩
  have wx' : Whole x' := ⟨by omega, by omega⟩
  have wy : Whole y := ⟨by omega, by omega⟩
  have wy' : Whole y' := ⟨by omega, by omega⟩
  obtain ⟨d, hd0⟩ : ∃ d, apartOf x' x = d := ⟨_, rfl⟩
  obtain ⟨e, he0⟩ : ∃ e, apartOf y' y = e := ⟨_, rfl⟩
  have hdd : 0 ≤ d ∧ d ≤ 15 ∧ (d ≤ 1 ↔ InR (x - x') (-1) 1) ∧ (d = 0 ↔ x = x') := by
    unfold apartOf at hd0; unfold InR
    split at hd0 <;> omega
  have hee : 0 ≤ e ∧ e ≤ 15 ∧ (e ≤ 1 ↔ InR (y - y') (-1) 1) ∧ (e = 0 ↔ y = y') := by
    unfold apartOf at he0; unfold InR
    split at he0 <;> omega
  obtain ⟨v, hv⟩ : ∃ v, pb (StepBy (x, y, lo, hi, fr, up, hd) (x', y', lo', hi', fr', up', hd')) = v := ⟨_, rfl⟩
  rw [hv]
  have HV : Hid (v = true ↔ ((d = 1 ∨ e = 1) ∧ d ≤ 1 ∧ e ≤ 1 ∧ lo ≤ hi' ∧ lo' ≤ hi)) := by
    show _ ↔ _
    rw [← hv, pb_iff]
    constructor
    · rintro ⟨h1, h2, h3, h4, h5⟩
      have q1 := hdd.2.2.1.2 h1
      have q2 := hee.2.2.1.2 h2
      refine ⟨?_, q1, q2, h4, h5⟩
      rcases h3 with h3 | h3
      · have : d ≠ 0 := fun h => h3 (hdd.2.2.2.1 h)
        omega
      · have : e ≠ 0 := fun h => h3 (hee.2.2.2.1 h)
        omega
    · rintro ⟨h3, h1, h2, h4, h5⟩
      refine ⟨hdd.2.2.1.1 h1, hee.2.2.1.1 h2, ?_, h4, h5⟩
      by_cases q : x = x'
      · have h6 := hdd.2.2.2.2 q
        right; intro q2
        have h7 := hee.2.2.2.2 q2
        omega
      · exact .inl q
  obtain ⟨hd1, hd2, _⟩ := hdd
  obtain ⟨he1, he2, _⟩ := hee
  clear hv
  have HB : ∀ k, Below w.heap.size w (((w.alloc (.cells #[.int .i64 x', .int .i64 y', .int .i64 lo', .int .i64 hi', .int .i64 fr', .int .i64 up', .bool hd'] 52)).alloc (.cells #[.int .i64 x, .int .i64 y, .int .i64 lo, .int .i64 hi, .int .i64 fr, .int .i64 up, .bool hd] 52)).drewN k) := fun k => below_drewN (((Below.refl _ _).alloc (Nat.le_refl _) _).alloc (by simp) _) k
  go_enter Try.func42, Try.ntmps42
  go_wp2_with fail
  go_quiet ((go_at_call 49; refine (dist_d _ _ _ _ (by assumption) (by assumption) (by assumption)).mono ?_; rintro e w' ⟨rfl, rfl⟩; exact ⟨rfl, _, rfl⟩))
  clear hd0 he0 wx wx' wy wy'
  go_wp2
  all_goals
    go_ret
    refine ⟨?_, HB _⟩
    have H := HV.out
    clear HV HB
    refine congrArg (fun z => Ending.returned (Value.bool z)) (Bool.eq_iff_iff.2 ?_)
    rw [H]
    simp
    try omega

end Fly
end Go.Proofs.Ytfjeiegoblaadaa
