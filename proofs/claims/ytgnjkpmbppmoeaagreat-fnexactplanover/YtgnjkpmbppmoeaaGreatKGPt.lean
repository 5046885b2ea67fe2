/- DERIVED. spec.PlanFits: its walk (written by wip/tools/mk_pfs.py). -/
import Derived.Test.YtgnjkpmbppmoeaaGreatKGPs
namespace Go.Proofs.YtgnjkpmbppmoeaaGreat
open Go.RowKit
set_option linter.unusedSimpArgs false
set_option linter.unusedVariables false

theorem stateB (v : ByteArray) : (v.toList == [111, 112, 101, 110] || v.toList == [99, 108, 111, 115, 101, 100]) = pb (StateOk v) := by
  have eo : openB.toList = [111, 112, 101, 110] := by rw [ByteArray.toList_eq]; rfl
  have ec : closedB.toList = [99, 108, 111, 115, 101, 100] := by rw [ByteArray.toList_eq]; rfl
  rw [← eo, ← ec]
  by_cases h1 : v = openB
  · rw [beqL.2 h1, pb_yes (.inl h1)]; rfl
  · rw [beqL_no h1]
    by_cases h2 : v = closedB
    · rw [beqL.2 h2, pb_yes (.inr h2)]; rfl
    · rw [beqL_no h2, pb_no (fun h => h.elim h1 h2)]; rfl
theorem levelM (v : ByteArray) : LevelOk v ↔ InR (decM v) 1 6 := by
  constructor
  · rintro ⟨h1, h2⟩
    rw [(decM_yes h1).out]; exact h2
  · intro h
    have h1 : DecOk v := decM_pos.2 (by have := h.1; omega)
    rw [(decM_yes h1).out] at h
    exact ⟨h1, h⟩

set_option maxRecDepth 100000 in
set_option maxHeartbeats 2000000 in
theorem sFits1 (x : DPlanBase) (ao0 : Option Addr) (cap0 : Nat) (ao1 : Option Addr) (cap1 : Nat) (v : ByteArray) (w : World) (h : BaseAt w x ao0 cap0 ao1 cap1) (hv : v.size ≤ 1048576) :
    Calls Tryz.prog 113 #[.agg #[.slice ao0 x.1.length cap0, .slice ao1 x.2.length cap1], .int .i64 1, .string v] w fun e w' => e = .returned (.bool (pb (FitsOk x 1 v))) ∧ Below w.heap.size w w' := by
  have HE := fits1 x v
  have hb0 : Below w.heap.size w (w.alloc (.cells #[.slice ao0 x.1.length cap0, .slice ao1 x.2.length cap1] 40)) := (Below.refl _ _).alloc (Nat.le_refl _) _
  have HB0 := BxC.new w #[.slice ao0 x.1.length cap0, .slice ao1 x.2.length cap1] 40
  go_enter Tryz.func113, Tryz.ntmps113
  go_wp2_with fail
  refine (sBase x ao0 cap0 ao1 cap1 _ (h.later hb0).p0 (h.later hb0).p1).mono ?_
  rintro e w1 ⟨rfl, hb1⟩
  have HB1 := HB0.below hb1 (by simp)
  have hB1 := hb0.trans (hb1.mono hb0.size)
  have hz1 : w.heap.size < w1.heap.size := by have := hb1.size; simp at this; omega
  clear hb1 hb0 HB0
  by_cases hok : BaseOk x
  · rw [pb_yes hok]
    have HOK : Hid (BaseOk x) := hok
    clear hok
    go_wp2_with fail
    refine (sCut v _ hv).mono ?_
    rintro e w2 ⟨aw, capw, rfl, hT, hb2⟩
    have HB2 := HB1.below hb2 hz1
    have hB2 := hB1.trans (hb2.mono hB1.size)
    have hz2 : w.heap.size < w2.heap.size := Nat.lt_of_lt_of_le hz1 hb2.size
    have x0 := HB2 0
    have x1 := HB2 1
    simp at x0 x1
    have hwl : (wordsP v).length ≤ 1048577 := Nat.le_trans (wordsP_len v) (by omega)
    have hws : ∀ y ∈ wordsP v, y.size ≤ maxLen := fun y hy => Nat.le_trans (wordsP_sizes v y hy) (by unfold maxLen; omega)
    have hvm : v.size ≤ maxLen := Nat.le_trans hv (by unfold maxLen; omega)
    clear hb2 HB1 hB1 hz1 HB2
    have HR : Hid (pb (FitsOk x 1 v) = pb (HasNm nmK x.1 v)) := pb_same ⟨fun h => HE.1 h.2, fun h => ⟨HOK.out, HE.2 h⟩⟩
    have hix := idxOf_has nmK x.1 v
    have hHN : Hid (pb (HasNm nmK x.1 v) = decide (0 ≤ idxOf nmK x.1 v)) := by
      show _ = _
      by_cases hq : 0 ≤ idxOf nmK x.1 v
      · rw [pb_yes (hix.1.2 hq)]; simp [hq]
      · rw [pb_no (fun h1 => hq (hix.1.1 h1))]; simp; omega
    clear HE hix
    go_wp2_with fail
    refine (sPlanKind x ao0 cap0 ao1 cap1 v _ (h.later hB2)).mono ?_
    rintro e w3 ⟨rfl, hb3⟩
    have hB3 := hB2.trans (hb3.mono hB2.size)
    generalize idxOf nmK x.1 v = ix at *
    clear hb3 x0 x1 hT
    go_wp2
    go_ret
    exact ⟨by rw [HR.out, hHN.out]; rfl, hB3⟩
  · rw [pb_no hok]
    have HR : Hid (pb (FitsOk x 1 v) = false) := pb_no (fun h => hok h.1)
    clear hok HE
    go_wp2
    go_ret
    exact ⟨by rw [HR.out]; rfl, hB1⟩

set_option maxRecDepth 100000 in
set_option maxHeartbeats 2000000 in
theorem sFits2 (x : DPlanBase) (ao0 : Option Addr) (cap0 : Nat) (ao1 : Option Addr) (cap1 : Nat) (v : ByteArray) (w : World) (h : BaseAt w x ao0 cap0 ao1 cap1) (hv : v.size ≤ 1048576) :
    Calls Tryz.prog 113 #[.agg #[.slice ao0 x.1.length cap0, .slice ao1 x.2.length cap1], .int .i64 2, .string v] w fun e w' => e = .returned (.bool (pb (FitsOk x 2 v))) ∧ Below w.heap.size w w' := by
  have HE := fits2 x v
  have hb0 : Below w.heap.size w (w.alloc (.cells #[.slice ao0 x.1.length cap0, .slice ao1 x.2.length cap1] 40)) := (Below.refl _ _).alloc (Nat.le_refl _) _
  have HB0 := BxC.new w #[.slice ao0 x.1.length cap0, .slice ao1 x.2.length cap1] 40
  go_enter Tryz.func113, Tryz.ntmps113
  go_wp2_with fail
  refine (sBase x ao0 cap0 ao1 cap1 _ (h.later hb0).p0 (h.later hb0).p1).mono ?_
  rintro e w1 ⟨rfl, hb1⟩
  have HB1 := HB0.below hb1 (by simp)
  have hB1 := hb0.trans (hb1.mono hb0.size)
  have hz1 : w.heap.size < w1.heap.size := by have := hb1.size; simp at this; omega
  clear hb1 hb0 HB0
  by_cases hok : BaseOk x
  · rw [pb_yes hok]
    have HOK : Hid (BaseOk x) := hok
    clear hok
    go_wp2_with fail
    refine (sCut v _ hv).mono ?_
    rintro e w2 ⟨aw, capw, rfl, hT, hb2⟩
    have HB2 := HB1.below hb2 hz1
    have hB2 := hB1.trans (hb2.mono hB1.size)
    have hz2 : w.heap.size < w2.heap.size := Nat.lt_of_lt_of_le hz1 hb2.size
    have x0 := HB2 0
    have x1 := HB2 1
    simp at x0 x1
    have hwl : (wordsP v).length ≤ 1048577 := Nat.le_trans (wordsP_len v) (by omega)
    have hws : ∀ y ∈ wordsP v, y.size ≤ maxLen := fun y hy => Nat.le_trans (wordsP_sizes v y hy) (by unfold maxLen; omega)
    have hvm : v.size ≤ maxLen := Nat.le_trans hv (by unfold maxLen; omega)
    clear hb2 HB1 hB1 hz1 HB2
    have HR : Hid (pb (FitsOk x 2 v) = pb (TimeOk (wordsP v))) := pb_same ⟨fun h => HE.1 h.2, fun h => ⟨HOK.out, HE.2 h⟩⟩
    clear HE
    have HQ := sTime aw capw (wordsP v) w2 hT hwl hws
    clear hwl hws hT
    generalize wordsP v = ws at *
    go_wp2_with fail
    refine HQ.mono ?_
    rintro e w3 ⟨rfl, hb3⟩
    have hB3 := hB2.trans (hb3.mono hB2.size)
    clear hb3 x0 x1 HQ
    go_wp2
    go_ret
    exact ⟨by rw [HR.out]; rfl, hB3⟩
  · rw [pb_no hok]
    have HR : Hid (pb (FitsOk x 2 v) = false) := pb_no (fun h => hok h.1)
    clear hok HE
    go_wp2
    go_ret
    exact ⟨by rw [HR.out]; rfl, hB1⟩

set_option maxRecDepth 100000 in
set_option maxHeartbeats 2000000 in
theorem sFits3 (x : DPlanBase) (ao0 : Option Addr) (cap0 : Nat) (ao1 : Option Addr) (cap1 : Nat) (v : ByteArray) (w : World) (h : BaseAt w x ao0 cap0 ao1 cap1) (hv : v.size ≤ 1048576) :
    Calls Tryz.prog 113 #[.agg #[.slice ao0 x.1.length cap0, .slice ao1 x.2.length cap1], .int .i64 3, .string v] w fun e w' => e = .returned (.bool (pb (FitsOk x 3 v))) ∧ Below w.heap.size w w' := by
  have HE := fits3 x v
  have hb0 : Below w.heap.size w (w.alloc (.cells #[.slice ao0 x.1.length cap0, .slice ao1 x.2.length cap1] 40)) := (Below.refl _ _).alloc (Nat.le_refl _) _
  have HB0 := BxC.new w #[.slice ao0 x.1.length cap0, .slice ao1 x.2.length cap1] 40
  go_enter Tryz.func113, Tryz.ntmps113
  go_wp2_with fail
  refine (sBase x ao0 cap0 ao1 cap1 _ (h.later hb0).p0 (h.later hb0).p1).mono ?_
  rintro e w1 ⟨rfl, hb1⟩
  have HB1 := HB0.below hb1 (by simp)
  have hB1 := hb0.trans (hb1.mono hb0.size)
  have hz1 : w.heap.size < w1.heap.size := by have := hb1.size; simp at this; omega
  clear hb1 hb0 HB0
  by_cases hok : BaseOk x
  · rw [pb_yes hok]
    have HOK : Hid (BaseOk x) := hok
    clear hok
    go_wp2_with fail
    refine (sCut v _ hv).mono ?_
    rintro e w2 ⟨aw, capw, rfl, hT, hb2⟩
    have HB2 := HB1.below hb2 hz1
    have hB2 := hB1.trans (hb2.mono hB1.size)
    have hz2 : w.heap.size < w2.heap.size := Nat.lt_of_lt_of_le hz1 hb2.size
    have x0 := HB2 0
    have x1 := HB2 1
    simp at x0 x1
    have hwl : (wordsP v).length ≤ 1048577 := Nat.le_trans (wordsP_len v) (by omega)
    have hws : ∀ y ∈ wordsP v, y.size ≤ maxLen := fun y hy => Nat.le_trans (wordsP_sizes v y hy) (by unfold maxLen; omega)
    have hvm : v.size ≤ maxLen := Nat.le_trans hv (by unfold maxLen; omega)
    clear hb2 HB1 hB1 hz1 HB2
    have HR : Hid (pb (FitsOk x 3 v) = pb (LevelOk v)) := pb_same ⟨fun h => HE.1 h.2, fun h => ⟨HOK.out, HE.2 h⟩⟩
    have hL : Hid (pb (LevelOk v) = pb (InR (decM v) 1 6)) := pb_same (levelM v)
    clear HE hwl hws hT
    go_wp2_with (first | (go_at_call 61; refine (sNum v _ hvm).mono ?_; rintro e w3 ⟨rfl, hwq⟩; subst hwq) | (go_at_call 81; refine (s11in_any _ _ _ _).mono ?_; rintro e w4 ⟨rfl, hb4⟩))
    go_ret
    exact ⟨by rw [HR.out, hL.out]; rfl, hB2.trans (hb4.mono hB2.size)⟩
  · rw [pb_no hok]
    have HR : Hid (pb (FitsOk x 3 v) = false) := pb_no (fun h => hok h.1)
    clear hok HE
    go_wp2
    go_ret
    exact ⟨by rw [HR.out]; rfl, hB1⟩

set_option maxRecDepth 100000 in
set_option maxHeartbeats 2000000 in
theorem sFits4 (x : DPlanBase) (ao0 : Option Addr) (cap0 : Nat) (ao1 : Option Addr) (cap1 : Nat) (v : ByteArray) (w : World) (h : BaseAt w x ao0 cap0 ao1 cap1) (hv : v.size ≤ 1048576) :
    Calls Tryz.prog 113 #[.agg #[.slice ao0 x.1.length cap0, .slice ao1 x.2.length cap1], .int .i64 4, .string v] w fun e w' => e = .returned (.bool (pb (FitsOk x 4 v))) ∧ Below w.heap.size w w' := by
  have HE := fits4 x v
  have hb0 : Below w.heap.size w (w.alloc (.cells #[.slice ao0 x.1.length cap0, .slice ao1 x.2.length cap1] 40)) := (Below.refl _ _).alloc (Nat.le_refl _) _
  have HB0 := BxC.new w #[.slice ao0 x.1.length cap0, .slice ao1 x.2.length cap1] 40
  go_enter Tryz.func113, Tryz.ntmps113
  go_wp2_with fail
  refine (sBase x ao0 cap0 ao1 cap1 _ (h.later hb0).p0 (h.later hb0).p1).mono ?_
  rintro e w1 ⟨rfl, hb1⟩
  have HB1 := HB0.below hb1 (by simp)
  have hB1 := hb0.trans (hb1.mono hb0.size)
  have hz1 : w.heap.size < w1.heap.size := by have := hb1.size; simp at this; omega
  clear hb1 hb0 HB0
  by_cases hok : BaseOk x
  · rw [pb_yes hok]
    have HOK : Hid (BaseOk x) := hok
    clear hok
    go_wp2_with fail
    refine (sCut v _ hv).mono ?_
    rintro e w2 ⟨aw, capw, rfl, hT, hb2⟩
    have HB2 := HB1.below hb2 hz1
    have hB2 := hB1.trans (hb2.mono hB1.size)
    have hz2 : w.heap.size < w2.heap.size := Nat.lt_of_lt_of_le hz1 hb2.size
    have x0 := HB2 0
    have x1 := HB2 1
    simp at x0 x1
    have hwl : (wordsP v).length ≤ 1048577 := Nat.le_trans (wordsP_len v) (by omega)
    have hws : ∀ y ∈ wordsP v, y.size ≤ maxLen := fun y hy => Nat.le_trans (wordsP_sizes v y hy) (by unfold maxLen; omega)
    have hvm : v.size ≤ maxLen := Nat.le_trans hv (by unfold maxLen; omega)
    clear hb2 HB1 hB1 hz1 HB2
    have HR : Hid (pb (FitsOk x 4 v) = pb (RouteOk x.2 (wordsP v))) := pb_same ⟨fun h => HE.1 h.2, fun h => ⟨HOK.out, HE.2 h⟩⟩
    clear HE
    have HQ := sRoute x ao0 cap0 ao1 cap1 aw capw (wordsP v) w2 (h.later hB2) hT hwl
    clear hwl hws hT
    generalize wordsP v = ws at *
    go_wp2_with fail
    refine HQ.mono ?_
    rintro e w3 ⟨rfl, hb3⟩
    have hB3 := hB2.trans (hb3.mono hB2.size)
    clear hb3 x0 x1 HQ
    go_wp2
    go_ret
    exact ⟨by rw [HR.out]; rfl, hB3⟩
  · rw [pb_no hok]
    have HR : Hid (pb (FitsOk x 4 v) = false) := pb_no (fun h => hok h.1)
    clear hok HE
    go_wp2
    go_ret
    exact ⟨by rw [HR.out]; rfl, hB1⟩

set_option maxRecDepth 100000 in
set_option maxHeartbeats 2000000 in
theorem sFits5 (x : DPlanBase) (ao0 : Option Addr) (cap0 : Nat) (ao1 : Option Addr) (cap1 : Nat) (v : ByteArray) (w : World) (h : BaseAt w x ao0 cap0 ao1 cap1) (hv : v.size ≤ 1048576) :
    Calls Tryz.prog 113 #[.agg #[.slice ao0 x.1.length cap0, .slice ao1 x.2.length cap1], .int .i64 5, .string v] w fun e w' => e = .returned (.bool (pb (FitsOk x 5 v))) ∧ Below w.heap.size w w' := by
  have HE := fits5 x v
  have hb0 : Below w.heap.size w (w.alloc (.cells #[.slice ao0 x.1.length cap0, .slice ao1 x.2.length cap1] 40)) := (Below.refl _ _).alloc (Nat.le_refl _) _
  have HB0 := BxC.new w #[.slice ao0 x.1.length cap0, .slice ao1 x.2.length cap1] 40
  go_enter Tryz.func113, Tryz.ntmps113
  go_wp2_with fail
  refine (sBase x ao0 cap0 ao1 cap1 _ (h.later hb0).p0 (h.later hb0).p1).mono ?_
  rintro e w1 ⟨rfl, hb1⟩
  have HB1 := HB0.below hb1 (by simp)
  have hB1 := hb0.trans (hb1.mono hb0.size)
  have hz1 : w.heap.size < w1.heap.size := by have := hb1.size; simp at this; omega
  clear hb1 hb0 HB0
  by_cases hok : BaseOk x
  · rw [pb_yes hok]
    have HOK : Hid (BaseOk x) := hok
    clear hok
    go_wp2_with fail
    refine (sCut v _ hv).mono ?_
    rintro e w2 ⟨aw, capw, rfl, hT, hb2⟩
    have HB2 := HB1.below hb2 hz1
    have hB2 := hB1.trans (hb2.mono hB1.size)
    have hz2 : w.heap.size < w2.heap.size := Nat.lt_of_lt_of_le hz1 hb2.size
    have x0 := HB2 0
    have x1 := HB2 1
    simp at x0 x1
    have hwl : (wordsP v).length ≤ 1048577 := Nat.le_trans (wordsP_len v) (by omega)
    have hws : ∀ y ∈ wordsP v, y.size ≤ maxLen := fun y hy => Nat.le_trans (wordsP_sizes v y hy) (by unfold maxLen; omega)
    have hvm : v.size ≤ maxLen := Nat.le_trans hv (by unfold maxLen; omega)
    clear hb2 HB1 hB1 hz1 HB2
    have HR : Hid (pb (FitsOk x 5 v) = pb (StateOk v)) := pb_same ⟨fun h => HE.1 h.2, fun h => ⟨HOK.out, HE.2 h⟩⟩
    have hS := stateB v
    have HS : Hid (pb (StateOk v) = (v.toList == [111, 112, 101, 110] || v.toList == [99, 108, 111, 115, 101, 100])) := hS.symm
    clear HE hwl hws hT hS
    cases hb1 : v.toList == [111, 112, 101, 110] <;> cases hb2 : v.toList == [99, 108, 111, 115, 101, 100]
    all_goals
      have HS2 : Hid (pb (StateOk v) = _) := HS.out.trans (by rw [hb1, hb2])
      clear HS
      go_wp2
      go_ret
      exact ⟨by rw [HR.out, HS2.out]; first | rfl | simp [hb1, hb2], hB2⟩
  · rw [pb_no hok]
    have HR : Hid (pb (FitsOk x 5 v) = false) := pb_no (fun h => hok h.1)
    clear hok HE
    go_wp2
    go_ret
    exact ⟨by rw [HR.out]; rfl, hB1⟩

set_option maxRecDepth 100000 in
set_option maxHeartbeats 2000000 in
theorem sFitsNo (x : DPlanBase) (ao0 : Option Addr) (cap0 : Nat) (ao1 : Option Addr) (cap1 : Nat) (what : Int) (v : ByteArray) (w : World) (h : BaseAt w x ao0 cap0 ao1 cap1) (hv : v.size ≤ 1048576) (hno : ¬ (1 ≤ what ∧ what ≤ 5)) :
    Calls Tryz.prog 113 #[.agg #[.slice ao0 x.1.length cap0, .slice ao1 x.2.length cap1], .int .i64 what, .string v] w fun e w' => e = .returned (.bool (pb (FitsOk x what v))) ∧ Below w.heap.size w w' := by
  have HE : Hid (¬ FitsAs x what v) := fits_no x what v hno
  have e1 : (what == 1) = false := by simp only [beq_eq_false_iff_ne, ne_eq]; omega
  have e2 : (what == 2) = false := by simp only [beq_eq_false_iff_ne, ne_eq]; omega
  have e3 : (what == 3) = false := by simp only [beq_eq_false_iff_ne, ne_eq]; omega
  have e4 : (what == 4) = false := by simp only [beq_eq_false_iff_ne, ne_eq]; omega
  have e5 : (what == 5) = false := by simp only [beq_eq_false_iff_ne, ne_eq]; omega
  clear hno
  have hb0 : Below w.heap.size w (w.alloc (.cells #[.slice ao0 x.1.length cap0, .slice ao1 x.2.length cap1] 40)) := (Below.refl _ _).alloc (Nat.le_refl _) _
  have HB0 := BxC.new w #[.slice ao0 x.1.length cap0, .slice ao1 x.2.length cap1] 40
  go_enter Tryz.func113, Tryz.ntmps113
  go_wp2_with fail
  refine (sBase x ao0 cap0 ao1 cap1 _ (h.later hb0).p0 (h.later hb0).p1).mono ?_
  rintro e w1 ⟨rfl, hb1⟩
  have HB1 := HB0.below hb1 (by simp)
  have hB1 := hb0.trans (hb1.mono hb0.size)
  have hz1 : w.heap.size < w1.heap.size := by have := hb1.size; simp at this; omega
  clear hb1 hb0 HB0
  by_cases hok : BaseOk x
  · rw [pb_yes hok]
    have HOK : Hid (BaseOk x) := hok
    clear hok
    go_wp2_with fail
    refine (sCut v _ hv).mono ?_
    rintro e w2 ⟨aw, capw, rfl, hT, hb2⟩
    have HB2 := HB1.below hb2 hz1
    have hB2 := hB1.trans (hb2.mono hB1.size)
    have hz2 : w.heap.size < w2.heap.size := Nat.lt_of_lt_of_le hz1 hb2.size
    have x0 := HB2 0
    have x1 := HB2 1
    simp at x0 x1
    have hwl : (wordsP v).length ≤ 1048577 := Nat.le_trans (wordsP_len v) (by omega)
    have hws : ∀ y ∈ wordsP v, y.size ≤ maxLen := fun y hy => Nat.le_trans (wordsP_sizes v y hy) (by unfold maxLen; omega)
    have hvm : v.size ≤ maxLen := Nat.le_trans hv (by unfold maxLen; omega)
    clear hb2 HB1 hB1 hz1 HB2
    have HR : Hid (pb (FitsOk x what v) = false) := pb_no (fun h => HE.out h.2)
    clear HE hwl hws hT
    go_wp2
    go_ret
    exact ⟨by rw [HR.out]; rfl, hB2⟩
  · rw [pb_no hok]
    have HR : Hid (pb (FitsOk x what v) = false) := pb_no (fun h => hok h.1)
    clear hok HE
    go_wp2
    go_ret
    exact ⟨by rw [HR.out]; rfl, hB1⟩

theorem sFits (x : DPlanBase) (ao0 : Option Addr) (cap0 : Nat) (ao1 : Option Addr) (cap1 : Nat) (what : Int) (v : ByteArray) (w : World) (h : BaseAt w x ao0 cap0 ao1 cap1) (hw : In64 what) (hv : v.size ≤ 1048576) :
    Calls Tryz.prog 113 #[.agg #[.slice ao0 x.1.length cap0, .slice ao1 x.2.length cap1], .int .i64 what, .string v] w fun e w' => e = .returned (.bool (pb (FitsOk x what v))) ∧ Below w.heap.size w w' := by
  by_cases hr : 1 ≤ what ∧ what ≤ 5
  · obtain rfl | rfl | rfl | rfl | rfl : what = 1 ∨ what = 2 ∨ what = 3 ∨ what = 4 ∨ what = 5 := by omega
    · exact sFits1 x ao0 cap0 ao1 cap1 v w h hv
    · exact sFits2 x ao0 cap0 ao1 cap1 v w h hv
    · exact sFits3 x ao0 cap0 ao1 cap1 v w h hv
    · exact sFits4 x ao0 cap0 ao1 cap1 v w h hv
    · exact sFits5 x ao0 cap0 ao1 cap1 v w h hv
  · exact sFitsNo x ao0 cap0 ao1 cap1 what v w h hv hr

end Go.Proofs.YtgnjkpmbppmoeaaGreat

/- DERIVED. spec.PlanChangeOk: its walk (written by wip/tools/mk_pf3.py). -/
namespace Go.Proofs.YtgnjkpmbppmoeaaGreat
open Go.RowKit
set_option linter.unusedSimpArgs false
set_option linter.unusedVariables false

theorem s11name (s : ByteArray) (w : World) (hs : s.size ≤ maxLen) : Calls Tryz.prog 93 #[.string s] w fun e w' => e = .returned (.bool (pb (NameOk s))) ∧ Below w.heap.size w w' :=
  (s11nameOk_both s w hs).mono fun e w' h => by
    rcases h with ⟨⟨h1, rfl⟩ | ⟨h1, rfl⟩, rfl⟩
    · exact ⟨by rw [pb_yes h1], Below.refl _ _⟩
    · exact ⟨by rw [pb_no h1], Below.refl _ _⟩

set_option maxRecDepth 100000 in
set_option maxHeartbeats 2000000 in
theorem sChange (x : DPlanBase) (ao0 : Option Addr) (cap0 : Nat) (ao1 : Option Addr) (cap1 : Nat) (c : DChange) (w : World) (h : BaseAt w x ao0 cap0 ao1 cap1) (h1 : c.1.size ≤ maxLen) (h2 : In64 c.2.1) (h4 : c.2.2.2.size ≤ 1048576) :
    Calls Tryz.prog 94 #[.agg #[.slice ao0 x.1.length cap0, .slice ao1 x.2.length cap1], .agg #[.string c.1, .int .i64 c.2.1, .int .i64 c.2.2.1, .string c.2.2.2]] w fun e w' => e = .returned (.bool (pb (ChangeOk x c))) ∧ Below w.heap.size w w' := by
  obtain ⟨f, wh, n, v⟩ := c
  simp only at *
  have hb0 : Below w.heap.size w ((w.alloc (.cells #[.slice ao0 x.1.length cap0, .slice ao1 x.2.length cap1] 40)).alloc (.cells #[.string f, .int .i64 wh, .int .i64 n, .string v] 152)) := ((Below.refl _ _).alloc (Nat.le_refl _) _).alloc (by simp) _
  have HB0 : BxC w.heap.size #[.slice ao0 x.1.length cap0, .slice ao1 x.2.length cap1] ((w.alloc (.cells #[.slice ao0 x.1.length cap0, .slice ao1 x.2.length cap1] 40)).alloc (.cells #[.string f, .int .i64 wh, .int .i64 n, .string v] 152)) := (BxC.new w _ _).below ((Below.refl (w.heap.size + 1) _).alloc (by simp) _) (by omega)
  have HC0 := BxC.new (w.alloc (.cells #[.slice ao0 x.1.length cap0, .slice ao1 x.2.length cap1] 40)) #[.string f, .int .i64 wh, .int .i64 n, .string v] 152
  rw [World.size_alloc] at HC0
  have HFN := s11name f
  have HFF := fun W hW => sFits x ao0 cap0 ao1 cap1 wh v W hW h2 h4
  go_enter Tryz.func94, Tryz.ntmps94
  go_wp2_with fail
  refine (HFN _ h1).mono ?_
  rintro e w1 ⟨rfl, hb1⟩
  have hB1 := hb0.trans (hb1.mono hb0.size)
  have HB1 := HB0.below hb1 (by simp; omega)
  have HC1 := HC0.below hb1 (by simp)
  have hz1 : w.heap.size + 1 < w1.heap.size := by have := hb1.size; simp at this; omega
  have hz1' : w.heap.size < w1.heap.size := by omega
  have x0 := HB1 0
  have x1 := HB1 1
  have y1 := HC1 1
  have y2 := HC1 2
  have y3 := HC1 3
  simp at x0 x1 y1 y2 y3
  clear hb1 hb0 HB0 HC0 HB1 HC1 HFN
  by_cases g1 : NameOk f
  · rw [pb_yes g1]
    by_cases g2 : InR n 1 1000000
    · have HR : Hid (pb (ChangeOk x (f, wh, n, v)) = pb (FitsOk x wh v)) := pb_same ⟨fun h => h.2.2, fun h => ⟨g1, g2, h⟩⟩
      go_wp2_with (first | (go_at_call 81; refine (s11in_yes _ _ _ _ g2).mono ?_; rintro e w' ⟨rfl, hwq⟩; try subst hwq) | (go_at_call 113; refine (HFF _ (h.later hB1)).mono ?_; rintro e w2 ⟨rfl, hb2⟩))
      go_ret
      exact ⟨by rw [HR.out]; rfl, hB1.trans (hb2.mono hB1.size)⟩
    · have HR : Hid (pb (ChangeOk x (f, wh, n, v)) = false) := pb_no (fun h => g2 h.2.1)
      go_wp2_with (go_at_call 81; refine (s11in_no _ _ _ _ g2).mono ?_; rintro e w' ⟨rfl, hwq⟩; try subst hwq)
      go_ret
      exact ⟨by rw [HR.out]; rfl, hB1⟩
  · rw [pb_no g1]
    have HR : Hid (pb (ChangeOk x (f, wh, n, v)) = false) := pb_no (fun h => g1 h.1)
    go_wp2_with fail
    go_ret
    exact ⟨by rw [HR.out]; rfl, hB1⟩

end Go.Proofs.YtgnjkpmbppmoeaaGreat
