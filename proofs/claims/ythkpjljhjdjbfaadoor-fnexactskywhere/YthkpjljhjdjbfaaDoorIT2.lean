/- DERIVED. impl.skyHasRunway: its walk. -/
import Derived.Test.YthkpjljhjdjbfaaDoorIT1
namespace Go.Proofs.YthkpjljhjdjbfaaDoor
open Go.RowKit
set_option linter.unusedSimpArgs false
set_option linter.unusedVariables false

def HasRw (W H X Y T : Int) : Prop := InR T 1 8 ∧ InSky W H X Y ∧ InSky W H (X - dxOf T) (Y - dyOf T)

theorem goes_at (t : Nat) (h : t < 8) : (goesL 8)[t * 2]? = some (.int .i64 (dxOf ((t : Int) + 1))) ∧ (goesL 8)[t * 2 + 1]? = some (.int .i64 (dyOf ((t : Int) + 1))) := by
  have h : t = 0 ∨ t = 1 ∨ t = 2 ∨ t = 3 ∨ t = 4 ∨ t = 5 ∨ t = 6 ∨ t = 7 := by omega
  rcases h with rfl | rfl | rfl | rfl | rfl | rfl | rfl | rfl
  all_goals exact ⟨rfl, rfl⟩

theorem dx_bdI (t : Int) : -1 ≤ dxOf t ∧ dxOf t ≤ 1 := by unfold dxOf; repeat' split <;> omega
theorem dy_bdI (t : Int) : -1 ≤ dyOf t ∧ dyOf t ≤ 1 := by unfold dyOf; repeat' split <;> omega

set_option maxRecDepth 100000 in
set_option maxHeartbeats 2000000 in
theorem hasRunway_any (W H L X Y T : Int) (a b c d : Value) (nm : ByteArray) (w : World) (hW : 1 ≤ W ∧ W ≤ 16) (hH : 1 ≤ H ∧ H ≤ 16) (hT : TurnsLaid w) :
    Calls Tryd.prog 78 #[.agg #[.int .i64 W, .int .i64 H, .int .i64 L, a, b, c, d], .agg #[.string nm, .int .i64 X, .int .i64 Y, .int .i64 T]] w fun e w' => ((HasRw W H X Y T ∧ e = .returned (.bool true)) ∨ (¬ HasRw W H X Y T ∧ e = .returned (.bool false))) ∧ Below w.heap.size w w' := by
  have hb0 : Below w.heap.size w ((w.alloc (.cells #[.int .i64 W, .int .i64 H, .int .i64 L, a, b, c, d] 38)).alloc (.cells #[.string nm, .int .i64 X, .int .i64 Y, .int .i64 T] 83)) := ((Below.refl _ _).alloc (Nat.le_refl _) _).alloc (by simp) _
  have hT2 := hT.later hb0
  go_enter Tryd.func78, Tryd.ntmps78
  go_wp2_with fail
  refine (turns_any _ hT2).mono ?_
  rintro e w1 ⟨g, cap, rfl, hown, hb1⟩
  have hBw := hb0.trans (hb1.mono hb0.size)
  have hcl := fun (k i : Nat) (hk : k < w.heap.size + 2) => hb1.cell (p := ⟨k, i, none⟩) (show k < _ by simp; omega)
  have s0 : w1.cell? ⟨w.heap.size, 0, none⟩ = some (.int .i64 W) := (hcl w.heap.size 0 (by omega)).trans (by go_simp)
  have s1 : w1.cell? ⟨w.heap.size, 1, none⟩ = some (.int .i64 H) := (hcl w.heap.size 1 (by omega)).trans (by go_simp)
  have s2 : w1.cell? ⟨w.heap.size, 2, none⟩ = some (.int .i64 L) := (hcl w.heap.size 2 (by omega)).trans (by go_simp)
  have s3 : w1.cell? ⟨w.heap.size, 3, none⟩ = some a := (hcl w.heap.size 3 (by omega)).trans (by go_simp)
  have s4 : w1.cell? ⟨w.heap.size, 4, none⟩ = some b := (hcl w.heap.size 4 (by omega)).trans (by go_simp)
  have s5 : w1.cell? ⟨w.heap.size, 5, none⟩ = some c := (hcl w.heap.size 5 (by omega)).trans (by go_simp)
  have s6 : w1.cell? ⟨w.heap.size, 6, none⟩ = some d := (hcl w.heap.size 6 (by omega)).trans (by go_simp)
  have r0 : w1.cell? ⟨w.heap.size + 1, 0, none⟩ = some (.string nm) := (hcl (w.heap.size + 1) 0 (by omega)).trans (by go_simp)
  have r1 : w1.cell? ⟨w.heap.size + 1, 1, none⟩ = some (.int .i64 X) := (hcl (w.heap.size + 1) 1 (by omega)).trans (by go_simp)
  have r2 : w1.cell? ⟨w.heap.size + 1, 2, none⟩ = some (.int .i64 Y) := (hcl (w.heap.size + 1) 2 (by omega)).trans (by go_simp)
  have r3 : w1.cell? ⟨w.heap.size + 1, 3, none⟩ = some (.int .i64 T) := (hcl (w.heap.size + 1) 3 (by omega)).trans (by go_simp)
  have hsz1 : w.heap.size + 1 < w1.heap.size := by have := hb1.size; simp at this; omega
  have hsz2 : w.heap.size < w1.heap.size := by omega
  have hsz3 : w.heap.size < w1.heap.size + 1 := by omega
  have hsz4 : w.heap.size + 1 < w1.heap.size + 1 := by omega
  have hsz5 : ¬ w.heap.size = w1.heap.size + 1 := by omega
  have hsz6 : ¬ w.heap.size = w1.heap.size := by omega
  have hg1 := hown.lt g rfl
  have hgI : g < w1.heap.size := hg1.2
  clear hcl hb1 hT2 hb0
  by_cases hTr : InR T 1 8
  · by_cases hin : InSky W H X Y
    · have hyes := inSkyB_yes hin
      have HIN : Hid (InSky W H X Y) := hin
      have hX : 0 ≤ X ∧ X ≤ 16 := by unfold InSky InR at hin; omega
      have hY : 0 ≤ Y ∧ Y ≤ 16 := by unfold InSky InR at hin; omega
      obtain ⟨hX1, hX2⟩ := hX
      obtain ⟨hY1, hY2⟩ := hY
      obtain ⟨t, ht⟩ : ∃ t : Nat, T = (t : Int) + 1 := ⟨(T - 1).toNat, by have := hTr.1; omega⟩
      have ht8 : t < 8 := by have := hTr.2; omega
      subst ht
      have q0 : w1.cell? ⟨g, t * 2, none⟩ = some (.int .i64 (dxOf ((t : Int) + 1))) := by
        have := hown.cells (g := g) rfl (t * 2) _ (goes_at t ht8).1
        rwa [add_none, Nat.zero_add] at this
      have q1 : w1.cell? ⟨g, t * 2 + 1, none⟩ = some (.int .i64 (dyOf ((t : Int) + 1))) := by
        have := hown.cells (g := g) rfl (t * 2 + 1) _ (goes_at t ht8).2
        rwa [add_none, Nat.zero_add] at this
      have hdx := dx_bdI ((t : Int) + 1)
      have hdy := dy_bdI ((t : Int) + 1)
      have HTR : Hid (InR ((t : Int) + 1) 1 8) := hTr
      clear hin hown
      by_cases hin2 : InSky W H (X - dxOf ((t : Int) + 1)) (Y - dyOf ((t : Int) + 1))
      · have hyes2 := inSkyB_yes hin2
        have HP : Hid (HasRw W H X Y ((t : Int) + 1)) := ⟨HTR.out, HIN.out, hin2⟩
        clear hin2
        generalize dxOf ((t : Int) + 1) = dx at *
        generalize dyOf ((t : Int) + 1) = dy at *
        go_wp2_with (first | (go_at_call 65; refine (from_yes _ _ _ _ hTr).mono ?_; rintro e w' ⟨rfl, rfl⟩) | (go_at_call 68; refine (hasCell_any _ _ _ _ _ _ _ _ _ _ hW hH).mono ?_; rintro e w' ⟨rfl, rfl⟩))
        go_ret
        exact ⟨.inl ⟨HP.out, by first | rfl | simp [*]⟩, by repeat (first | exact hBw | refine Below.alloc ?_ (by first | omega | (simp; omega)) _)⟩
      · have hno2 := inSkyB_no hin2
        have HP : Hid (¬ HasRw W H X Y ((t : Int) + 1)) := fun h => hin2 h.2.2
        clear hin2
        generalize dxOf ((t : Int) + 1) = dx at *
        generalize dyOf ((t : Int) + 1) = dy at *
        go_wp2_with (first | (go_at_call 65; refine (from_yes _ _ _ _ hTr).mono ?_; rintro e w' ⟨rfl, rfl⟩) | (go_at_call 68; refine (hasCell_any _ _ _ _ _ _ _ _ _ _ hW hH).mono ?_; rintro e w' ⟨rfl, rfl⟩))
        go_ret
        exact ⟨.inr ⟨HP.out, by first | rfl | simp [*]⟩, by repeat (first | exact hBw | refine Below.alloc ?_ (by first | omega | (simp; omega)) _)⟩
    · have hno := inSkyB_no hin
      have HP : Hid (¬ HasRw W H X Y T) := fun h => hin h.2.1
      clear hin hown
      go_wp2_with (first | (go_at_call 65; refine (from_yes _ _ _ _ hTr).mono ?_; rintro e w' ⟨rfl, rfl⟩) | (go_at_call 68; refine (hasCell_any _ _ _ _ _ _ _ _ _ _ hW hH).mono ?_; rintro e w' ⟨rfl, rfl⟩))
      go_ret
      exact ⟨.inr ⟨HP.out, rfl⟩, by repeat (first | exact hBw | refine Below.alloc ?_ (by first | omega | (simp; omega)) _)⟩
  · have HP : Hid (¬ HasRw W H X Y T) := fun h => hTr h.1
    clear hown
    go_wp2_with (go_at_call 65; refine (from_no _ _ _ _ hTr).mono ?_; rintro e w' ⟨rfl, rfl⟩)
    go_ret
    exact ⟨.inr ⟨HP.out, rfl⟩, by repeat (first | exact hBw | refine Below.alloc ?_ (by first | omega | (simp; omega)) _)⟩

end Go.Proofs.YthkpjljhjdjbfaaDoor
