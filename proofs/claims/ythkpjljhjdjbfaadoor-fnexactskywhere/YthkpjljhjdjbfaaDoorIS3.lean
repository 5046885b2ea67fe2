/- DERIVED. cmp.Compare, cmp.Or at int, impl.skyCompareBlocks: their walks. -/
import Derived.Test.YthkpjljhjdjbfaaDoorIS0
import Derived.Test.YthkpjljhjdjbfaaDoorSkyM
import Derived.StillTailTactics
namespace Go.Proofs.YthkpjljhjdjbfaaDoor
open Go.RowKit
set_option linter.unusedSimpArgs false
set_option linter.unusedVariables false

def cmpI (x y : Int) : Int := if x < y then -1 else if y < x then 1 else 0
def cmpB (a b : DSkyBlock) : Int := if cmpI a.1 b.1 ≠ 0 then cmpI a.1 b.1 else if cmpI a.2.1 b.2.1 ≠ 0 then cmpI a.2.1 b.2.1 else cmpI a.2.2.2.2.1 b.2.2.2.2.1

theorem cmpB_less (a b : DSkyBlock) : cmpB a b < 0 ↔ BlockLess a b := by
  unfold cmpB cmpI BlockLess
  repeat' split
  all_goals omega

theorem cmpB_bd (a b : DSkyBlock) : -1 ≤ cmpB a b ∧ cmpB a b ≤ 1 := by
  unfold cmpB cmpI
  repeat' split
  all_goals omega

theorem compare_any (x y : Int) (w : World) : Calls Tryd.prog 94 #[.int .i64 x, .int .i64 y] w fun e w' => e = .returned (.int .i64 (cmpI x y)) ∧ w' = w := by
  by_cases h1 : x < y
  · have hc : cmpI x y = -1 := by unfold cmpI; rw [if_pos h1]
    rw [hc]
    clear hc
    go_enter Tryd.func94, Tryd.ntmps94
    go_wp2
    go_ret
    exact ⟨rfl, rfl⟩
  · by_cases h2 : y < x
    · have hc : cmpI x y = 1 := by unfold cmpI; rw [if_neg h1, if_pos h2]
      rw [hc]
      clear hc
      go_enter Tryd.func94, Tryd.ntmps94
      go_wp2
      go_ret
      exact ⟨rfl, rfl⟩
    · have hc : cmpI x y = 0 := by unfold cmpI; rw [if_neg h1, if_neg h2]
      rw [hc]
      clear hc
      go_enter Tryd.func94, Tryd.ntmps94
      go_wp2
      go_ret
      exact ⟨rfl, rfl⟩

def orI (a b c : Int) : Int := if a ≠ 0 then a else if b ≠ 0 then b else c

set_option maxHeartbeats 1000000 in
theorem or_any (g : Nat) (a b c : Int) (w : World) (q0 : w.cell? ⟨g, 0, none⟩ = some (.int .i64 a)) (q1 : w.cell? ⟨g, 1, none⟩ = some (.int .i64 b)) (q2 : w.cell? ⟨g, 2, none⟩ = some (.int .i64 c)) :
    Calls Tryd.prog 93 #[.slice (some ⟨g, 0, none⟩) 3 3] w fun e w' => e = .returned (.int .i64 (orI a b c)) ∧ w' = w := by
  go_enter Tryd.func93, Tryd.ntmps93
  go_wp2
  go_loop [8] (fun i => ∃ k : Nat, k ≤ 3 ∧ i = .int .i64 k ∧ Hid ((0 < k → a = 0) ∧ (1 < k → b = 0) ∧ (2 < k → c = 0))) (fun i => 3 - (intOf i).toNat)
  case atStart => exact ⟨0, by omega, rfl, by omega, by omega, by omega⟩
  case round =>
    obtain ⟨k, hk, rfl, hall⟩ := hrel
    have hk' : k = 0 ∨ k = 1 ∨ k = 2 ∨ k = 3 := by omega
    rcases hk' with rfl | rfl | rfl | rfl
    · by_cases h : a = 0
      · subst h
        go_wp2
        go_round
        case rel => exact ⟨1, by omega, by go_num, fun _ => by simp, by omega, by omega⟩
        case measure => simp [intOf]
      · have hb : (a != 0) = true := by simp [h]
        have HE : Hid (orI a b c = a) := by show _ = _; unfold orI; rw [if_pos h]
        go_wp2
        go_ret
        exact ⟨by rw [HE.out]; rfl, rfl⟩
    · have ha := hall.out.1 (by omega)
      by_cases h : b = 0
      · subst h
        clear ha
        go_wp2
        go_round
        case rel => exact ⟨2, by omega, by go_num, fun _ => hall.out.1 (by omega), fun _ => by simp, by omega⟩
        case measure => simp [intOf]
      · have hb : (b != 0) = true := by simp [h]
        have HE : Hid (orI a b c = b) := by show _ = _; unfold orI; rw [if_neg (by simp [ha]), if_pos h]
        clear ha
        go_wp2
        go_ret
        exact ⟨by rw [HE.out]; rfl, rfl⟩
    · have ha := hall.out.1 (by omega)
      have hb0 := hall.out.2.1 (by omega)
      by_cases h : c = 0
      · subst h
        clear ha hb0
        go_wp2
        go_round
        case rel => exact ⟨3, by omega, by go_num, fun _ => hall.out.1 (by omega), fun _ => hall.out.2.1 (by omega), fun _ => by simp⟩
        case measure => simp [intOf]
      · have hb : (c != 0) = true := by simp [h]
        have HE : Hid (orI a b c = c) := by show _ = _; unfold orI; rw [if_neg (by simp [ha]), if_neg (by simp [hb0])]
        clear ha hb0
        go_wp2
        go_ret
        exact ⟨by rw [HE.out]; rfl, rfl⟩
    · have HE : Hid (orI a b c = 0) := by show _ = _; unfold orI; rw [if_neg (by simp [hall.out.1 (by omega)]), if_neg (by simp [hall.out.2.1 (by omega)]), hall.out.2.2 (by omega)]
      go_wp2
      go_ret
      exact ⟨by rw [HE.out]; rfl, rfl⟩

/-- A region that draws its order, whose first n operations leave the world as it is and whose last ones wait for all others. -/
theorem region_tail {P : Program} {id : Nat} {Q : Exit → Act → World → Prop} {a : Act} {w : World} {l : List Oper} (n : Nat) (hm : P.follows .mixedOrders = true) (hB : Region.lexTailB .any l.toArray n = true)
    (h : wpStill P l.toArray w.drew (fun a' => wpList P l.toArray Q (l.drop n) a' w.drew) (l.take n) a) : (Code.region id l.toArray true).wp P Q a w :=
  wp_region_still_tail n hm hB h

theorem mixedF : Tryd.prog.follows .mixedOrders = true := by kernel_rfl

set_option maxRecDepth 100000 in
set_option maxHeartbeats 1000000 in
theorem cmpBlocks_any (a b : DSkyBlock) (w : World) :
    Calls Tryd.prog 85 #[.agg #[.int .i64 a.1, .int .i64 a.2.1, .int .i64 a.2.2.1, .int .i64 a.2.2.2.1, .int .i64 a.2.2.2.2.1, .int .i64 a.2.2.2.2.2], .agg #[.int .i64 b.1, .int .i64 b.2.1, .int .i64 b.2.2.1, .int .i64 b.2.2.2.1, .int .i64 b.2.2.2.2.1, .int .i64 b.2.2.2.2.2]] w fun e w' => e = .returned (.int .i64 (cmpB a b)) ∧ Below w.heap.size w w' := by
  obtain ⟨aX0, aY0, aX1, aY1, alo, ahi⟩ := a
  obtain ⟨bX0, bY0, bX1, bY1, blo, bhi⟩ := b
  simp only
  have hcb : cmpB (aX0, aY0, aX1, aY1, alo, ahi) (bX0, bY0, bX1, bY1, blo, bhi) = orI (cmpI aX0 bX0) (cmpI aY0 bY0) (cmpI alo blo) := rfl
  rw [hcb]
  clear hcb
  go_enter Tryd.func85, Tryd.ntmps85
  go_wp2
  refine region_tail 15 mixedF (by kernel_rfl) ?_
  simp only [List.take_succ_cons, List.take_zero, List.drop_succ_cons, List.drop_zero]
  still_step
  still_step
  still_step
  still_step
  still_call (compare_any _ _ _)
  still_step
  still_step
  still_step
  still_step
  still_call (compare_any _ _ _)
  still_step
  still_step
  still_step
  still_step
  still_call (compare_any _ _ _)
  refine wpStill_nil ?_
  go_wp2_with fail
  refine (or_any _ (cmpI aX0 bX0) (cmpI aY0 bY0) (cmpI alo blo) _ (by go_simp) (by go_simp) (by go_simp)).mono ?_
  rintro e w1 ⟨rfl, rfl⟩
  go_wp2
  go_ret
  exact ⟨rfl, by repeat (first | exact Below.refl _ _ | refine Below.drew ?_ | refine Below.alloc ?_ (by simp; try omega) _)⟩

end Go.Proofs.YthkpjljhjdjbfaaDoor
