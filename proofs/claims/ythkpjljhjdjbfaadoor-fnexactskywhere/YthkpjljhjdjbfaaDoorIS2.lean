/- DERIVED. impl.skyHasBlock: its walk (ways written out by wip/tools/mk_i2.py). -/
import Derived.Test.YthkpjljhjdjbfaaDoorIS0
import Derived.Test.YthkpjljhjdjbfaaDoorSkyM
namespace Go.Proofs.YthkpjljhjdjbfaaDoor
open Go.RowKit
set_option linter.unusedSimpArgs false
set_option linter.unusedVariables false

theorem blockOk_of {W H L X0 Y0 X1 Y1 lo hi : Int} (k1 : inSkyB W H X0 Y0 = true) (k2 : inSkyB W H X1 Y1 = true) (k3 : InR lo 1 L) (k4 : InR hi 1 L) (k5 : X0 ≤ X1) (k6 : Y0 ≤ Y1) (k7 : lo ≤ hi) : BlockOk W H L (X0, Y0, X1, Y1, lo, hi) := by
  have h1 := inSkyB_iff.1 k1
  have h2 := inSkyB_iff.1 k2
  unfold InSky InR at h1 h2
  unfold InR at k3 k4
  simp only [BlockOk]
  omega
theorem blockOk_1 {W H L X0 Y0 X1 Y1 lo hi : Int} (h : BlockOk W H L (X0, Y0, X1, Y1, lo, hi)) : InSky W H X0 Y0 ∧ InSky W H X1 Y1 ∧ InR lo 1 L ∧ InR hi 1 L ∧ X0 ≤ X1 ∧ Y0 ≤ Y1 ∧ lo ≤ hi := by
  simp only [BlockOk] at h
  simp only [InSky, InR]
  omega

set_option maxHeartbeats 4000000 in
theorem hasBlock_any (W H L : Int) (a b c d : Value) (bk : DSkyBlock) (w : World) (hW : 1 ≤ W ∧ W ≤ 16) (hH : 1 ≤ H ∧ H ≤ 16) :
    Calls Tryd.prog 86 #[.agg #[.int .i64 W, .int .i64 H, .int .i64 L, a, b, c, d], .agg #[.int .i64 bk.1, .int .i64 bk.2.1, .int .i64 bk.2.2.1, .int .i64 bk.2.2.2.1, .int .i64 bk.2.2.2.2.1, .int .i64 bk.2.2.2.2.2]] w fun e w' =>
      ((BlockOk W H L bk ∧ e = .returned (.bool true)) ∨ (¬ BlockOk W H L bk ∧ e = .returned (.bool false))) ∧ Below w.heap.size w w' := by
  obtain ⟨X0, Y0, X1, Y1, lo, hi⟩ := bk
  simp only
  by_cases h1 : InSky W H X0 Y0
  · have k1 := inSkyB_yes h1
    by_cases h2 : InSky W H X1 Y1
    · have k2 := inSkyB_yes h2
      by_cases k3 : InR lo 1 L
      · by_cases k4 : InR hi 1 L
        · by_cases k5 : X0 ≤ X1
          · by_cases k6 : Y0 ≤ Y1
            · by_cases k7 : lo ≤ hi
              · have HP : Hid (BlockOk W H L (X0, Y0, X1, Y1, lo, hi)) := blockOk_of k1 k2 k3 k4 k5 k6 k7
                go_enter Tryd.func86, Tryd.ntmps86
                go_wp2_with (first | (go_at_call 68; refine (hasCell_any _ _ _ _ _ _ _ _ _ _ hW hH).mono ?_; rintro e w' ⟨rfl, rfl⟩) | (go_at_call 65; refine (from_yes _ _ _ _ (by assumption)).mono ?_; rintro e w' ⟨rfl, rfl⟩) | (go_at_call 65; refine (from_no _ _ _ _ (by assumption)).mono ?_; rintro e w' ⟨rfl, rfl⟩))
                go_ret
                exact ⟨.inl ⟨HP.out, by first | rfl | (simp [*]; done) | (simp; try omega)⟩, by repeat (first | exact Below.refl _ _ | refine Below.alloc ?_ (by simp; try omega) _)⟩
              · have HP : Hid (¬ BlockOk W H L (X0, Y0, X1, Y1, lo, hi)) := fun h => k7 (blockOk_1 h).2.2.2.2.2.2
                go_enter Tryd.func86, Tryd.ntmps86
                go_wp2_with (first | (go_at_call 68; refine (hasCell_any _ _ _ _ _ _ _ _ _ _ hW hH).mono ?_; rintro e w' ⟨rfl, rfl⟩) | (go_at_call 65; refine (from_yes _ _ _ _ (by assumption)).mono ?_; rintro e w' ⟨rfl, rfl⟩) | (go_at_call 65; refine (from_no _ _ _ _ (by assumption)).mono ?_; rintro e w' ⟨rfl, rfl⟩))
                go_ret
                exact ⟨.inr ⟨HP.out, by first | rfl | (simp; try omega)⟩, by repeat (first | exact Below.refl _ _ | refine Below.alloc ?_ (by simp; try omega) _)⟩
            · have HP : Hid (¬ BlockOk W H L (X0, Y0, X1, Y1, lo, hi)) := fun h => k6 (blockOk_1 h).2.2.2.2.2.1
              go_enter Tryd.func86, Tryd.ntmps86
              go_wp2_with (first | (go_at_call 68; refine (hasCell_any _ _ _ _ _ _ _ _ _ _ hW hH).mono ?_; rintro e w' ⟨rfl, rfl⟩) | (go_at_call 65; refine (from_yes _ _ _ _ (by assumption)).mono ?_; rintro e w' ⟨rfl, rfl⟩) | (go_at_call 65; refine (from_no _ _ _ _ (by assumption)).mono ?_; rintro e w' ⟨rfl, rfl⟩))
              go_ret
              exact ⟨.inr ⟨HP.out, by first | rfl | (simp; try omega)⟩, by repeat (first | exact Below.refl _ _ | refine Below.alloc ?_ (by simp; try omega) _)⟩
          · have HP : Hid (¬ BlockOk W H L (X0, Y0, X1, Y1, lo, hi)) := fun h => k5 (blockOk_1 h).2.2.2.2.1
            go_enter Tryd.func86, Tryd.ntmps86
            go_wp2_with (first | (go_at_call 68; refine (hasCell_any _ _ _ _ _ _ _ _ _ _ hW hH).mono ?_; rintro e w' ⟨rfl, rfl⟩) | (go_at_call 65; refine (from_yes _ _ _ _ (by assumption)).mono ?_; rintro e w' ⟨rfl, rfl⟩) | (go_at_call 65; refine (from_no _ _ _ _ (by assumption)).mono ?_; rintro e w' ⟨rfl, rfl⟩))
            go_ret
            exact ⟨.inr ⟨HP.out, by first | rfl | (simp; try omega)⟩, by repeat (first | exact Below.refl _ _ | refine Below.alloc ?_ (by simp; try omega) _)⟩
        · have HP : Hid (¬ BlockOk W H L (X0, Y0, X1, Y1, lo, hi)) := fun h => k4 (blockOk_1 h).2.2.2.1
          go_enter Tryd.func86, Tryd.ntmps86
          go_wp2_with (first | (go_at_call 68; refine (hasCell_any _ _ _ _ _ _ _ _ _ _ hW hH).mono ?_; rintro e w' ⟨rfl, rfl⟩) | (go_at_call 65; refine (from_yes _ _ _ _ (by assumption)).mono ?_; rintro e w' ⟨rfl, rfl⟩) | (go_at_call 65; refine (from_no _ _ _ _ (by assumption)).mono ?_; rintro e w' ⟨rfl, rfl⟩))
          go_ret
          exact ⟨.inr ⟨HP.out, by first | rfl | (simp; try omega)⟩, by repeat (first | exact Below.refl _ _ | refine Below.alloc ?_ (by simp; try omega) _)⟩
      · have HP : Hid (¬ BlockOk W H L (X0, Y0, X1, Y1, lo, hi)) := fun h => k3 (blockOk_1 h).2.2.1
        go_enter Tryd.func86, Tryd.ntmps86
        go_wp2_with (first | (go_at_call 68; refine (hasCell_any _ _ _ _ _ _ _ _ _ _ hW hH).mono ?_; rintro e w' ⟨rfl, rfl⟩) | (go_at_call 65; refine (from_yes _ _ _ _ (by assumption)).mono ?_; rintro e w' ⟨rfl, rfl⟩) | (go_at_call 65; refine (from_no _ _ _ _ (by assumption)).mono ?_; rintro e w' ⟨rfl, rfl⟩))
        go_ret
        exact ⟨.inr ⟨HP.out, by first | rfl | (simp; try omega)⟩, by repeat (first | exact Below.refl _ _ | refine Below.alloc ?_ (by simp; try omega) _)⟩
    · have k2 := inSkyB_no h2
      by_cases k3 : InR lo 1 L
      · by_cases k4 : InR hi 1 L
        · have HP : Hid (¬ BlockOk W H L (X0, Y0, X1, Y1, lo, hi)) := fun h => h2 (blockOk_1 h).2.1
          go_enter Tryd.func86, Tryd.ntmps86
          go_wp2_with (first | (go_at_call 68; refine (hasCell_any _ _ _ _ _ _ _ _ _ _ hW hH).mono ?_; rintro e w' ⟨rfl, rfl⟩) | (go_at_call 65; refine (from_yes _ _ _ _ (by assumption)).mono ?_; rintro e w' ⟨rfl, rfl⟩) | (go_at_call 65; refine (from_no _ _ _ _ (by assumption)).mono ?_; rintro e w' ⟨rfl, rfl⟩))
          go_ret
          exact ⟨.inr ⟨HP.out, by first | rfl | (simp; try omega)⟩, by repeat (first | exact Below.refl _ _ | refine Below.alloc ?_ (by simp; try omega) _)⟩
        · have HP : Hid (¬ BlockOk W H L (X0, Y0, X1, Y1, lo, hi)) := fun h => h2 (blockOk_1 h).2.1
          go_enter Tryd.func86, Tryd.ntmps86
          go_wp2_with (first | (go_at_call 68; refine (hasCell_any _ _ _ _ _ _ _ _ _ _ hW hH).mono ?_; rintro e w' ⟨rfl, rfl⟩) | (go_at_call 65; refine (from_yes _ _ _ _ (by assumption)).mono ?_; rintro e w' ⟨rfl, rfl⟩) | (go_at_call 65; refine (from_no _ _ _ _ (by assumption)).mono ?_; rintro e w' ⟨rfl, rfl⟩))
          go_ret
          exact ⟨.inr ⟨HP.out, by first | rfl | (simp; try omega)⟩, by repeat (first | exact Below.refl _ _ | refine Below.alloc ?_ (by simp; try omega) _)⟩
      · have HP : Hid (¬ BlockOk W H L (X0, Y0, X1, Y1, lo, hi)) := fun h => h2 (blockOk_1 h).2.1
        go_enter Tryd.func86, Tryd.ntmps86
        go_wp2_with (first | (go_at_call 68; refine (hasCell_any _ _ _ _ _ _ _ _ _ _ hW hH).mono ?_; rintro e w' ⟨rfl, rfl⟩) | (go_at_call 65; refine (from_yes _ _ _ _ (by assumption)).mono ?_; rintro e w' ⟨rfl, rfl⟩) | (go_at_call 65; refine (from_no _ _ _ _ (by assumption)).mono ?_; rintro e w' ⟨rfl, rfl⟩))
        go_ret
        exact ⟨.inr ⟨HP.out, by first | rfl | (simp; try omega)⟩, by repeat (first | exact Below.refl _ _ | refine Below.alloc ?_ (by simp; try omega) _)⟩
  · have k1 := inSkyB_no h1
    by_cases k3 : InR lo 1 L
    · by_cases k4 : InR hi 1 L
      · have HP : Hid (¬ BlockOk W H L (X0, Y0, X1, Y1, lo, hi)) := fun h => h1 (blockOk_1 h).1
        go_enter Tryd.func86, Tryd.ntmps86
        go_wp2_with (first | (go_at_call 68; refine (hasCell_any _ _ _ _ _ _ _ _ _ _ hW hH).mono ?_; rintro e w' ⟨rfl, rfl⟩) | (go_at_call 65; refine (from_yes _ _ _ _ (by assumption)).mono ?_; rintro e w' ⟨rfl, rfl⟩) | (go_at_call 65; refine (from_no _ _ _ _ (by assumption)).mono ?_; rintro e w' ⟨rfl, rfl⟩))
        go_ret
        exact ⟨.inr ⟨HP.out, by first | rfl | (simp; try omega)⟩, by repeat (first | exact Below.refl _ _ | refine Below.alloc ?_ (by simp; try omega) _)⟩
      · have HP : Hid (¬ BlockOk W H L (X0, Y0, X1, Y1, lo, hi)) := fun h => h1 (blockOk_1 h).1
        go_enter Tryd.func86, Tryd.ntmps86
        go_wp2_with (first | (go_at_call 68; refine (hasCell_any _ _ _ _ _ _ _ _ _ _ hW hH).mono ?_; rintro e w' ⟨rfl, rfl⟩) | (go_at_call 65; refine (from_yes _ _ _ _ (by assumption)).mono ?_; rintro e w' ⟨rfl, rfl⟩) | (go_at_call 65; refine (from_no _ _ _ _ (by assumption)).mono ?_; rintro e w' ⟨rfl, rfl⟩))
        go_ret
        exact ⟨.inr ⟨HP.out, by first | rfl | (simp; try omega)⟩, by repeat (first | exact Below.refl _ _ | refine Below.alloc ?_ (by simp; try omega) _)⟩
    · have HP : Hid (¬ BlockOk W H L (X0, Y0, X1, Y1, lo, hi)) := fun h => h1 (blockOk_1 h).1
      go_enter Tryd.func86, Tryd.ntmps86
      go_wp2_with (first | (go_at_call 68; refine (hasCell_any _ _ _ _ _ _ _ _ _ _ hW hH).mono ?_; rintro e w' ⟨rfl, rfl⟩) | (go_at_call 65; refine (from_yes _ _ _ _ (by assumption)).mono ?_; rintro e w' ⟨rfl, rfl⟩) | (go_at_call 65; refine (from_no _ _ _ _ (by assumption)).mono ?_; rintro e w' ⟨rfl, rfl⟩))
      go_ret
      exact ⟨.inr ⟨HP.out, by first | rfl | (simp; try omega)⟩, by repeat (first | exact Below.refl _ _ | refine Below.alloc ?_ (by simp; try omega) _)⟩

end Go.Proofs.YthkpjljhjdjbfaaDoor
