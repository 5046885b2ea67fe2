/- DERIVED. impl.SkyLeg at every two cells. -/
import Derived.Test.YtcamggfmaphcbaaLg3
namespace Go.Proofs.Ytcamggfmaphcbaa
namespace Leg
open Go.RowKit Go.Shelf
set_option linter.unusedSimpArgs false
set_option linter.unusedVariables false

theorem stops_forth (f t : DCell) (N : Nat) (hf : InLeg f) (ht : InLeg t) (hN : N ≤ 15) : StopsAt 5 1 f t N ((List.range (N + 1)).map fun (j : Nat) => cellOf (N : Int) f t (j : Int)) :=
  fun Bb Bl w hb hl h1 h2 l J Jx W hW hJ hJx hY h0 => cells1_forth 5 (by omega) l Bb Bl f t N _ rfl hf ht hN J Jx W hJ hY ((hW.cell (p := ⟨Bb, 0, none⟩) h1).trans hb) (hl.below hW h2) (Nat.lt_of_lt_of_le h1 hW.size) (Nat.lt_of_lt_of_le h2 hW.size) h0
theorem stops_back (f t : DCell) (N : Nat) (hf : InLeg f) (ht : InLeg t) (hN : N ≤ 15) : StopsAt 5 (-1) f t N ((List.range (N + 1)).map fun (j : Nat) => cellOf (N : Int) f t ((N : Int) - (j : Int))) :=
  fun Bb Bl w hb hl h1 h2 l J Jx W hW hJ hJx hY h0 => cells1_back 5 (by omega) l Bb Bl f t N _ rfl hf ht hN J Jx W hJ hY ((hW.cell (p := ⟨Bb, 0, none⟩) h1).trans hb) (hl.below hW h2) (Nat.lt_of_lt_of_le h1 hW.size) (Nat.lt_of_lt_of_le h2 hW.size) h0

theorem apart_comm (a b : Int) : apartOf a b = apartOf b a := by unfold apartOf; split <;> split <;> omega
theorem steps_comm (a b : DCell) : stepsOf a b = stepsOf b a := by unfold stepsOf; rw [apart_comm a.1, apart_comm a.2]

theorem rev_range {α : Type} (N : Nat) (g : Int → α) : ((List.range (N + 1)).map fun (j : Nat) => g ((N : Int) - (j : Int))) = ((List.range (N + 1)).map fun (j : Nat) => g (j : Int)).reverse := by
  apply List.ext_getElem
  · simp
  · intro i h1 h2
    simp at h1
    simp only [List.getElem_map, List.getElem_range, List.getElem_reverse, List.length_map, List.length_range]
    congr 1
    omega

theorem leg_yes {a b : DCell} (ha : InLeg a) (hb : InLeg b) (h : Lesser a b) : legOf a b = legUp a b := by simp [legOf, ha, hb, h]
theorem leg_back {a b : DCell} (ha : InLeg a) (hb : InLeg b) (h : ¬ Lesser a b) : legOf a b = (legUp b a).reverse := by simp [legOf, ha, hb, h]
theorem legUp_len (a b : DCell) : (legUp a b).length = (stepsOf a b).toNat + 1 := by simp [legUp]

set_option maxHeartbeats 1000000 in
theorem iLeg (a b : DCell) (w : World) :
    Calls Try.prog 6 #[vCe a, vCe b] w fun e w' => ∃ v, e = .returned v ∧ w'.ownsRow w.heap.size 24 2 v (legOf a b).length (cellVals (legOf a b)) ∧ Below w.heap.size w w' := by
  by_cases ha : InLeg a
  · by_cases hb : InLeg b
    · have hs := steps_le ha hb
      obtain ⟨N, hN⟩ : ∃ N : Nat, stepsOf a b = (N : Int) := ⟨(stepsOf a b).toNat, by omega⟩
      have hL := fun W => callsIn_wide (n := 5) |>.2 (lineOf a b W ha hb)
      refine (callsIn_wide (n := 6)).1 ?_
      by_cases h : Lesser a b
      · have e : legOf a b = (List.range (N + 1)).map fun (j : Nat) => cellOf (N : Int) a b (j : Int) := by rw [leg_yes ha hb h, legUp, hN]; rfl
        rw [e]
        simp only [h, if_true, hN] at hL
        exact leg_core a b a b 1 N _ w ha hb (by omega) (by show _ = _; simp) hL (stops_forth a b N ha hb (by omega))
      · have e : legOf a b = (List.range (N + 1)).map fun (j : Nat) => cellOf (N : Int) b a ((N : Int) - (j : Int)) := by
          rw [leg_back ha hb h, legUp, steps_comm b a, hN, rev_range N (fun k => cellOf (N : Int) b a k)]
          rfl
        rw [e]
        simp only [h, if_false, hN] at hL
        exact leg_core a b b a (-1) N _ w ha hb (by omega) (by show _ = _; simp) hL (stops_back b a N hb ha (by omega))
    · have e : legOf a b = [] := by simp [legOf, hb]
      have HA := fun W => hasLegs a W
      have HB := fun W => hasLegs b W
      rw [decide_eq_true ha] at HA
      rw [decide_eq_false hb] at HB
      rw [e]
      clear e ha hb
      obtain ⟨x, y⟩ := a
      obtain ⟨x', y'⟩ := b
      simp only [vCe] at *
      go_enter Try.func6, Try.ntmps6
      go_wp2_with fail
      refine (HA _).mono ?_
      rintro e w1 ⟨rfl, hb1⟩
      clear HA
      obtain ⟨bc1, bf1⟩ := bcell hb1
      have z1 := hb1.size
      simp at z1 bc1 bf1
      have y10 : w.heap.size < w1.heap.size := by omega
      have y11 : w.heap.size + 1 < w1.heap.size := by omega
      go_wp2_with fail
      refine (HB _).mono ?_
      rintro e w2 ⟨rfl, hb2⟩
      go_wp2
      go_ret
      exact ⟨_, rfl, World.ownsRow_nil _ _ _ _, ((((Below.refl w.heap.size w).alloc (Nat.le_refl _) _).alloc (by simp) _).trans (hb1.mono (by simp; omega))).trans (hb2.mono (by omega))⟩
  · have e : legOf a b = [] := by simp [legOf, ha]
    have HA := fun W => hasLegs a W
    rw [decide_eq_false ha] at HA
    rw [e]
    clear e ha
    obtain ⟨x, y⟩ := a
    obtain ⟨x', y'⟩ := b
    simp only [vCe] at *
    go_enter Try.func6, Try.ntmps6
    go_wp2_with fail
    refine (HA _).mono ?_
    rintro e w1 ⟨rfl, hb1⟩
    clear HA
    go_wp2
    go_ret
    exact ⟨_, rfl, World.ownsRow_nil _ _ _ _, ((((Below.refl w.heap.size w).alloc (Nat.le_refl _) _).alloc (by simp) _).trans (hb1.mono (by simp; omega)))⟩

end Leg
end Go.Proofs.Ytcamggfmaphcbaa
