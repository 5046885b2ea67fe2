/- DERIVED. spec.l2Dx, l2Dy, l2BlockOk, l2Less, l2Shares: their walks (ways written out by wip/tools/mk_s4.py). -/
import Derived.Test.YthkpjljhjdjbfaaDoorSkyS3
namespace Go.Proofs.YthkpjljhjdjbfaaDoor
open Go.RowKit
set_option linter.unusedSimpArgs false
set_option linter.unusedVariables false

set_option maxHeartbeats 400000 in
theorem spec_l2Dx (t : Int) (w : World) : Calls Tryd.prog 61 #[.int .i64 t] w fun e w' => e = .returned (.int .i64 (dxOf t)) ∧ w' = w := by
  by_cases h2 : t = 2
  · subst h2
    have hd : dxOf 2 = 1 := by decide
    rw [hd]
    clear hd
    go_enter Tryd.func61, Tryd.ntmps61
    go_wp2
    go_ret
    exact ⟨rfl, rfl⟩
  by_cases h3 : t = 3
  · subst h3
    have hd : dxOf 3 = 1 := by decide
    rw [hd]
    clear hd
    go_enter Tryd.func61, Tryd.ntmps61
    go_wp2
    go_ret
    exact ⟨rfl, rfl⟩
  by_cases h4 : t = 4
  · subst h4
    have hd : dxOf 4 = 1 := by decide
    rw [hd]
    clear hd
    go_enter Tryd.func61, Tryd.ntmps61
    go_wp2
    go_ret
    exact ⟨rfl, rfl⟩
  by_cases h6 : t = 6
  · subst h6
    have hd : dxOf 6 = -1 := by decide
    rw [hd]
    clear hd
    go_enter Tryd.func61, Tryd.ntmps61
    go_wp2
    go_ret
    exact ⟨rfl, rfl⟩
  by_cases h7 : t = 7
  · subst h7
    have hd : dxOf 7 = -1 := by decide
    rw [hd]
    clear hd
    go_enter Tryd.func61, Tryd.ntmps61
    go_wp2
    go_ret
    exact ⟨rfl, rfl⟩
  by_cases h8 : t = 8
  · subst h8
    have hd : dxOf 8 = -1 := by decide
    rw [hd]
    clear hd
    go_enter Tryd.func61, Tryd.ntmps61
    go_wp2
    go_ret
    exact ⟨rfl, rfl⟩
  have hd : dxOf t = 0 := by unfold dxOf; rw [if_neg (by omega), if_neg (by omega)]
  rw [hd]
  have g2 : (t == 2) = false := by simpa using h2
  have g3 : (t == 3) = false := by simpa using h3
  have g4 : (t == 4) = false := by simpa using h4
  have g6 : (t == 6) = false := by simpa using h6
  have g7 : (t == 7) = false := by simpa using h7
  have g8 : (t == 8) = false := by simpa using h8
  clear hd h2 h3 h4 h6 h7 h8
  go_enter Tryd.func61, Tryd.ntmps61
  go_wp2
  go_ret
  exact ⟨rfl, rfl⟩

set_option maxHeartbeats 400000 in
theorem spec_l2Dy (t : Int) (w : World) : Calls Tryd.prog 62 #[.int .i64 t] w fun e w' => e = .returned (.int .i64 (dyOf t)) ∧ w' = w := by
  by_cases h1 : t = 1
  · subst h1
    have hd : dyOf 1 = 1 := by decide
    rw [hd]
    clear hd
    go_enter Tryd.func62, Tryd.ntmps62
    go_wp2
    go_ret
    exact ⟨rfl, rfl⟩
  by_cases h2 : t = 2
  · subst h2
    have hd : dyOf 2 = 1 := by decide
    rw [hd]
    clear hd
    go_enter Tryd.func62, Tryd.ntmps62
    go_wp2
    go_ret
    exact ⟨rfl, rfl⟩
  by_cases h8 : t = 8
  · subst h8
    have hd : dyOf 8 = 1 := by decide
    rw [hd]
    clear hd
    go_enter Tryd.func62, Tryd.ntmps62
    go_wp2
    go_ret
    exact ⟨rfl, rfl⟩
  by_cases h4 : t = 4
  · subst h4
    have hd : dyOf 4 = -1 := by decide
    rw [hd]
    clear hd
    go_enter Tryd.func62, Tryd.ntmps62
    go_wp2
    go_ret
    exact ⟨rfl, rfl⟩
  by_cases h5 : t = 5
  · subst h5
    have hd : dyOf 5 = -1 := by decide
    rw [hd]
    clear hd
    go_enter Tryd.func62, Tryd.ntmps62
    go_wp2
    go_ret
    exact ⟨rfl, rfl⟩
  by_cases h6 : t = 6
  · subst h6
    have hd : dyOf 6 = -1 := by decide
    rw [hd]
    clear hd
    go_enter Tryd.func62, Tryd.ntmps62
    go_wp2
    go_ret
    exact ⟨rfl, rfl⟩
  have hd : dyOf t = 0 := by unfold dyOf; rw [if_neg (by omega), if_neg (by omega)]
  rw [hd]
  have g1 : (t == 1) = false := by simpa using h1
  have g2 : (t == 2) = false := by simpa using h2
  have g8 : (t == 8) = false := by simpa using h8
  have g4 : (t == 4) = false := by simpa using h4
  have g5 : (t == 5) = false := by simpa using h5
  have g6 : (t == 6) = false := by simpa using h6
  clear hd h1 h2 h8 h4 h5 h6
  go_enter Tryd.func62, Tryd.ntmps62
  go_wp2
  go_ret
  exact ⟨rfl, rfl⟩

set_option maxHeartbeats 1000000 in
theorem blockOk_both (x : DSky) (ao3 : Option Addr) (cap3 : Nat) (ao4 : Option Addr) (cap4 : Nat) (ao5 : Option Addr) (cap5 : Nat) (ao6 : Option Addr) (cap6 : Nat) (b : DSkyBlock) (w : World) :
    Calls Tryd.prog 57 #[.agg (skyCells x ao3 cap3 ao4 cap4 ao5 cap5 ao6 cap6), .agg #[.int .i64 b.1, .int .i64 b.2.1, .int .i64 b.2.2.1, .int .i64 b.2.2.2.1, .int .i64 b.2.2.2.2.1, .int .i64 b.2.2.2.2.2]] w fun e w' => ((BlockOk x.1 x.2.1 x.2.2.1 b ∧ e = .returned (.bool true)) ∨ (¬ BlockOk x.1 x.2.1 x.2.2.1 b ∧ e = .returned (.bool false))) ∧ w' = (w.alloc (.cells (skyCells x ao3 cap3 ao4 cap4 ao5 cap5 ao6 cap6) 38)).alloc (.cells #[.int .i64 b.1, .int .i64 b.2.1, .int .i64 b.2.2.1, .int .i64 b.2.2.2.1, .int .i64 b.2.2.2.2.1, .int .i64 b.2.2.2.2.2] 77) := by
  obtain ⟨W, H, L, ps, aw, ss, rs⟩ := x
  obtain ⟨X0, Y0, X1, Y1, lo, hi⟩ := b
  simp only [skyCells]
  by_cases h0 : InR X0 0 X1
  · by_cases h1 : X1 < W
    · by_cases h2 : InR Y0 0 Y1
      · by_cases h3 : Y1 < H
        · by_cases h4 : InR lo 1 hi
          · by_cases h5 : hi ≤ L
            · have HP : Hid (BlockOk W H L (X0, Y0, X1, Y1, lo, hi)) := ⟨⟨h0.1, h0.2, h1⟩, ⟨h2.1, h2.2, h3⟩, h4.1, h4.2, h5⟩
              go_enter Tryd.func57, Tryd.ntmps57
              go_wp2_with (first | (go_at_call 30; refine (in_yes _ _ _ _ (by assumption)).mono ?_; rintro e w' ⟨rfl, rfl⟩) | (go_at_call 30; refine (in_no _ _ _ _ (by assumption)).mono ?_; rintro e w' ⟨rfl, rfl⟩))
              go_ret
              exact ⟨.inl ⟨HP.out, by simp [*]⟩, rfl⟩
            · have HP : Hid (¬ BlockOk W H L (X0, Y0, X1, Y1, lo, hi)) := fun h => h5 h.2.2.2.2
              go_enter Tryd.func57, Tryd.ntmps57
              go_wp2_with (first | (go_at_call 30; refine (in_yes _ _ _ _ (by assumption)).mono ?_; rintro e w' ⟨rfl, rfl⟩) | (go_at_call 30; refine (in_no _ _ _ _ (by assumption)).mono ?_; rintro e w' ⟨rfl, rfl⟩))
              go_ret
              exact ⟨.inr ⟨HP.out, by first | rfl | (simp; try omega)⟩, rfl⟩
          · have HP : Hid (¬ BlockOk W H L (X0, Y0, X1, Y1, lo, hi)) := fun h => h4 ⟨h.2.2.1, h.2.2.2.1⟩
            go_enter Tryd.func57, Tryd.ntmps57
            go_wp2_with (first | (go_at_call 30; refine (in_yes _ _ _ _ (by assumption)).mono ?_; rintro e w' ⟨rfl, rfl⟩) | (go_at_call 30; refine (in_no _ _ _ _ (by assumption)).mono ?_; rintro e w' ⟨rfl, rfl⟩))
            go_ret
            exact ⟨.inr ⟨HP.out, by first | rfl | (simp; try omega)⟩, rfl⟩
        · have HP : Hid (¬ BlockOk W H L (X0, Y0, X1, Y1, lo, hi)) := fun h => h3 h.2.1.2.2
          go_enter Tryd.func57, Tryd.ntmps57
          go_wp2_with (first | (go_at_call 30; refine (in_yes _ _ _ _ (by assumption)).mono ?_; rintro e w' ⟨rfl, rfl⟩) | (go_at_call 30; refine (in_no _ _ _ _ (by assumption)).mono ?_; rintro e w' ⟨rfl, rfl⟩))
          go_ret
          exact ⟨.inr ⟨HP.out, by first | rfl | (simp; try omega)⟩, rfl⟩
      · have HP : Hid (¬ BlockOk W H L (X0, Y0, X1, Y1, lo, hi)) := fun h => h2 ⟨h.2.1.1, h.2.1.2.1⟩
        go_enter Tryd.func57, Tryd.ntmps57
        go_wp2_with (first | (go_at_call 30; refine (in_yes _ _ _ _ (by assumption)).mono ?_; rintro e w' ⟨rfl, rfl⟩) | (go_at_call 30; refine (in_no _ _ _ _ (by assumption)).mono ?_; rintro e w' ⟨rfl, rfl⟩))
        go_ret
        exact ⟨.inr ⟨HP.out, by first | rfl | (simp; try omega)⟩, rfl⟩
    · have HP : Hid (¬ BlockOk W H L (X0, Y0, X1, Y1, lo, hi)) := fun h => h1 h.1.2.2
      go_enter Tryd.func57, Tryd.ntmps57
      go_wp2_with (first | (go_at_call 30; refine (in_yes _ _ _ _ (by assumption)).mono ?_; rintro e w' ⟨rfl, rfl⟩) | (go_at_call 30; refine (in_no _ _ _ _ (by assumption)).mono ?_; rintro e w' ⟨rfl, rfl⟩))
      go_ret
      exact ⟨.inr ⟨HP.out, by first | rfl | (simp; try omega)⟩, rfl⟩
  · have HP : Hid (¬ BlockOk W H L (X0, Y0, X1, Y1, lo, hi)) := fun h => h0 ⟨h.1.1, h.1.2.1⟩
    go_enter Tryd.func57, Tryd.ntmps57
    go_wp2_with (first | (go_at_call 30; refine (in_yes _ _ _ _ (by assumption)).mono ?_; rintro e w' ⟨rfl, rfl⟩) | (go_at_call 30; refine (in_no _ _ _ _ (by assumption)).mono ?_; rintro e w' ⟨rfl, rfl⟩))
    go_ret
    exact ⟨.inr ⟨HP.out, by first | rfl | (simp; try omega)⟩, rfl⟩

set_option maxHeartbeats 1000000 in
theorem shares_both (a b : DSkyBlock) (w : World) :
    Calls Tryd.prog 60 #[.agg #[.int .i64 a.1, .int .i64 a.2.1, .int .i64 a.2.2.1, .int .i64 a.2.2.2.1, .int .i64 a.2.2.2.2.1, .int .i64 a.2.2.2.2.2], .agg #[.int .i64 b.1, .int .i64 b.2.1, .int .i64 b.2.2.1, .int .i64 b.2.2.2.1, .int .i64 b.2.2.2.2.1, .int .i64 b.2.2.2.2.2]] w fun e w' => ((Shares a b ∧ e = .returned (.bool true)) ∨ (¬ Shares a b ∧ e = .returned (.bool false))) ∧ Below w.heap.size w w' := by
  obtain ⟨aX0, aY0, aX1, aY1, alo, ahi⟩ := a
  obtain ⟨bX0, bY0, bX1, bY1, blo, bhi⟩ := b
  by_cases h0 : aX0 ≤ bX1
  · by_cases h1 : bX0 ≤ aX1
    · by_cases h2 : aY0 ≤ bY1
      · by_cases h3 : bY0 ≤ aY1
        · by_cases h4 : alo ≤ bhi
          · by_cases h5 : blo ≤ ahi
            · have HP : Hid (Shares (aX0, aY0, aX1, aY1, alo, ahi) (bX0, bY0, bX1, bY1, blo, bhi)) := ⟨h0, h1, h2, h3, h4, h5⟩
              go_enter Tryd.func60, Tryd.ntmps60
              go_wp2
              go_ret
              exact ⟨.inl ⟨HP.out, by simp [*]⟩, by repeat (first | exact Below.refl _ _ | refine Below.alloc ?_ (by simp; try omega) _)⟩
            · have HP : Hid (¬ Shares (aX0, aY0, aX1, aY1, alo, ahi) (bX0, bY0, bX1, bY1, blo, bhi)) := fun h => h5 h.2.2.2.2.2
              go_enter Tryd.func60, Tryd.ntmps60
              go_wp2
              go_ret
              exact ⟨.inr ⟨HP.out, by first | rfl | (simp; try omega)⟩, by repeat (first | exact Below.refl _ _ | refine Below.alloc ?_ (by simp; try omega) _)⟩
          · have HP : Hid (¬ Shares (aX0, aY0, aX1, aY1, alo, ahi) (bX0, bY0, bX1, bY1, blo, bhi)) := fun h => h4 h.2.2.2.2.1
            go_enter Tryd.func60, Tryd.ntmps60
            go_wp2
            go_ret
            exact ⟨.inr ⟨HP.out, by first | rfl | (simp; try omega)⟩, by repeat (first | exact Below.refl _ _ | refine Below.alloc ?_ (by simp; try omega) _)⟩
        · have HP : Hid (¬ Shares (aX0, aY0, aX1, aY1, alo, ahi) (bX0, bY0, bX1, bY1, blo, bhi)) := fun h => h3 h.2.2.2.1
          go_enter Tryd.func60, Tryd.ntmps60
          go_wp2
          go_ret
          exact ⟨.inr ⟨HP.out, by first | rfl | (simp; try omega)⟩, by repeat (first | exact Below.refl _ _ | refine Below.alloc ?_ (by simp; try omega) _)⟩
      · have HP : Hid (¬ Shares (aX0, aY0, aX1, aY1, alo, ahi) (bX0, bY0, bX1, bY1, blo, bhi)) := fun h => h2 h.2.2.1
        go_enter Tryd.func60, Tryd.ntmps60
        go_wp2
        go_ret
        exact ⟨.inr ⟨HP.out, by first | rfl | (simp; try omega)⟩, by repeat (first | exact Below.refl _ _ | refine Below.alloc ?_ (by simp; try omega) _)⟩
    · have HP : Hid (¬ Shares (aX0, aY0, aX1, aY1, alo, ahi) (bX0, bY0, bX1, bY1, blo, bhi)) := fun h => h1 h.2.1
      go_enter Tryd.func60, Tryd.ntmps60
      go_wp2
      go_ret
      exact ⟨.inr ⟨HP.out, by first | rfl | (simp; try omega)⟩, by repeat (first | exact Below.refl _ _ | refine Below.alloc ?_ (by simp; try omega) _)⟩
  · have HP : Hid (¬ Shares (aX0, aY0, aX1, aY1, alo, ahi) (bX0, bY0, bX1, bY1, blo, bhi)) := fun h => h0 h.1
    go_enter Tryd.func60, Tryd.ntmps60
    go_wp2
    go_ret
    exact ⟨.inr ⟨HP.out, by first | rfl | (simp; try omega)⟩, by repeat (first | exact Below.refl _ _ | refine Below.alloc ?_ (by simp; try omega) _)⟩

set_option maxHeartbeats 1000000 in
theorem less_both (a b : DSkyBlock) (w : World) :
    Calls Tryd.prog 58 #[.agg #[.int .i64 a.1, .int .i64 a.2.1, .int .i64 a.2.2.1, .int .i64 a.2.2.2.1, .int .i64 a.2.2.2.2.1, .int .i64 a.2.2.2.2.2], .agg #[.int .i64 b.1, .int .i64 b.2.1, .int .i64 b.2.2.1, .int .i64 b.2.2.2.1, .int .i64 b.2.2.2.2.1, .int .i64 b.2.2.2.2.2]] w fun e w' => ((BlockLess a b ∧ e = .returned (.bool true)) ∨ (¬ BlockLess a b ∧ e = .returned (.bool false))) ∧ w' = (w.alloc (.cells #[.int .i64 a.1, .int .i64 a.2.1, .int .i64 a.2.2.1, .int .i64 a.2.2.2.1, .int .i64 a.2.2.2.2.1, .int .i64 a.2.2.2.2.2] 77)).alloc (.cells #[.int .i64 b.1, .int .i64 b.2.1, .int .i64 b.2.2.1, .int .i64 b.2.2.2.1, .int .i64 b.2.2.2.2.1, .int .i64 b.2.2.2.2.2] 77) := by
  obtain ⟨aX0, aY0, aX1, aY1, alo, ahi⟩ := a
  obtain ⟨bX0, bY0, bX1, bY1, blo, bhi⟩ := b
  by_cases hx : aX0 = bX0
  · subst hx
    by_cases hy : aY0 = bY0
    · subst hy
      by_cases hl : alo < blo
      · have HP : Hid (BlockLess (aX0, aY0, aX1, aY1, alo, ahi) (aX0, aY0, bX1, bY1, blo, bhi)) := .inr ⟨rfl, .inr ⟨rfl, hl⟩⟩
        go_enter Tryd.func58, Tryd.ntmps58
        go_wp2
        go_ret
        exact ⟨.inl ⟨HP.out, by simp [hl]⟩, rfl⟩
      · have HP : Hid (¬ BlockLess (aX0, aY0, aX1, aY1, alo, ahi) (aX0, aY0, bX1, bY1, blo, bhi)) := by show ¬ _; unfold BlockLess; simp only; omega
        go_enter Tryd.func58, Tryd.ntmps58
        go_wp2
        go_ret
        exact ⟨.inr ⟨HP.out, by simp; try omega⟩, rfl⟩
    · have hyb : (aY0 != bY0) = true := by simpa using hy
      by_cases hl : aY0 < bY0
      · have HP : Hid (BlockLess (aX0, aY0, aX1, aY1, alo, ahi) (aX0, bY0, bX1, bY1, blo, bhi)) := .inr ⟨rfl, .inl hl⟩
        clear hy
        go_enter Tryd.func58, Tryd.ntmps58
        go_wp2
        go_ret
        exact ⟨.inl ⟨HP.out, by simp [hl]⟩, rfl⟩
      · have HP : Hid (¬ BlockLess (aX0, aY0, aX1, aY1, alo, ahi) (aX0, bY0, bX1, bY1, blo, bhi)) := by show ¬ _; unfold BlockLess; simp only; omega
        clear hy
        go_enter Tryd.func58, Tryd.ntmps58
        go_wp2
        go_ret
        exact ⟨.inr ⟨HP.out, by simp; try omega⟩, rfl⟩
  · have hxb : (aX0 != bX0) = true := by simpa using hx
    by_cases hl : aX0 < bX0
    · have HP : Hid (BlockLess (aX0, aY0, aX1, aY1, alo, ahi) (bX0, bY0, bX1, bY1, blo, bhi)) := .inl hl
      clear hx
      go_enter Tryd.func58, Tryd.ntmps58
      go_wp2
      go_ret
      exact ⟨.inl ⟨HP.out, by simp [hl]⟩, rfl⟩
    · have HP : Hid (¬ BlockLess (aX0, aY0, aX1, aY1, alo, ahi) (bX0, bY0, bX1, bY1, blo, bhi)) := by show ¬ _; unfold BlockLess; simp only; omega
      clear hx
      go_enter Tryd.func58, Tryd.ntmps58
      go_wp2
      go_ret
      exact ⟨.inr ⟨HP.out, by simp; try omega⟩, rfl⟩

end Go.Proofs.YthkpjljhjdjbfaaDoor
