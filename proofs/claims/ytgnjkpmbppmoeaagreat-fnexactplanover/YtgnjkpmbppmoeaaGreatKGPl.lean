/- DERIVED. impl.planNameOk: its walk. -/
import Derived.Test.YtgnjkpmbppmoeaaGreatKGXa
import Derived.Test.YtgnjkpmbppmoeaaGreatKGNm
namespace Go.Proofs.YtgnjkpmbppmoeaaGreat
open Go.RowKit
set_option linter.unusedSimpArgs false
set_option linter.unusedVariables false

theorem iName (s : ByteArray) (w : World) (hs : s.size ≤ maxLen) :
    Calls Tryz.prog 115 #[.string s] w fun e w' => e = .returned (.bool (pb (NameOk s))) ∧ Below w.heap.size w w' := by
  have hs2 : s.size ≤ 9223372036854775807 := hs
  by_cases h1 : s.size ≤ 8
  · have h1I : (s.size : Int) ≤ 8 := by omega
    by_cases h2 : NameOk s
    · have HR : Hid (pb (NameOk s) = true) := pb_yes h2
      go_enter Tryz.func115, Tryz.ntmps115
      go_wp2_with fail
      refine (iNameOk_yes s _ hs h2).mono ?_
      rintro e w' ⟨rfl, hb⟩
      clear h2
      go_wp2
      go_ret
      exact ⟨by rw [HR.out]; rfl, hb⟩
    · have HR : Hid (pb (NameOk s) = false) := pb_no h2
      go_enter Tryz.func115, Tryz.ntmps115
      go_wp2_with fail
      refine (iNameOk_no s _ hs h2).mono ?_
      rintro e w' ⟨rfl, hb⟩
      clear h2
      go_wp2
      go_ret
      exact ⟨by rw [HR.out]; rfl, hb⟩
  · have HR : Hid (pb (NameOk s) = false) := pb_no (fun h => h1 h.2.1)
    have h1I : ¬ (s.size : Int) ≤ 8 := by omega
    go_enter Tryz.func115, Tryz.ntmps115
    go_wp2_with fail
    go_ret
    exact ⟨by rw [HR.out]; try simp [h1I], Below.refl _ _⟩

end Go.Proofs.YtgnjkpmbppmoeaaGreat

/- DERIVED. impl.planNameOk, the methods aloneOk and name of kinds and points: their walks. -/
namespace Go.Proofs.YtgnjkpmbppmoeaaGreat
open Go.RowKit
set_option linter.unusedSimpArgs false
set_option linter.unusedVariables false

theorem iNmKind (s : ByteArray) (v1 v2 : Value) (w : World) : Calls Tryz.prog 146 #[.agg #[.string s, v1, v2]] w fun e w' => e = .returned (.string s) ∧ Below w.heap.size w w' := by
  go_enter Tryz.func146, Tryz.ntmps146
  go_wp2
  go_ret
  exact ⟨rfl, (Below.refl _ _).alloc (Nat.le_refl _) _⟩

theorem iNmPt (s : ByteArray) (v1 v2 : Value) (w : World) : Calls Tryz.prog 148 #[.agg #[.string s, v1, v2]] w fun e w' => e = .returned (.string s) ∧ Below w.heap.size w w' := by
  go_enter Tryz.func148, Tryz.ntmps148
  go_wp2
  go_ret
  exact ⟨rfl, (Below.refl _ _).alloc (Nat.le_refl _) _⟩

set_option maxHeartbeats 1000000 in
theorem iKind (k : DPlanKind) (w : World) (hs : k.1.size ≤ maxLen) :
    Calls Tryz.prog 145 #[.agg #[.string k.1, .int .i64 k.2.1, .int .i64 k.2.2]] w fun e w' => e = .returned (.bool (pb (KindOk k))) ∧ Below w.heap.size w w' := by
  obtain ⟨n, q, s⟩ := k
  simp only at *
  have hb1 : Below w.heap.size w (w.alloc (.cells #[.string n, .int .i64 q, .int .i64 s] 31)) := (Below.refl _ _).alloc (Nat.le_refl _) _
  by_cases h1 : NameOk n
  · have hn := pb_yes h1
    by_cases h2 : 1 ≤ q
    · by_cases h3 : q ≤ s
      · by_cases h4 : s ≤ 50
        · have HR : Hid (pb (KindOk (n, q, s)) = true) := pb_yes ⟨h1, ⟨h2, h3⟩, h4⟩
          go_enter Tryz.func145, Tryz.ntmps145
          go_wp2_with fail
          refine (iName n _ hs).mono ?_
          rintro e w' ⟨rfl, hb2⟩
          have hb := hb1.trans (hb2.mono (by simp))
          have x0 := box_in hb2 0
          have x1 := box_in hb2 1
          have x2 := box_in hb2 2
          simp at x0 x1 x2
          have hz : w.heap.size < w'.heap.size := by have := hb2.size; simp at this; omega
          rw [hn]
          clear hb2 hb1
          go_wp2_with fail
          go_ret
          exact ⟨by rw [HR.out]; simp [h4], hb⟩
        · have HR : Hid (pb (KindOk (n, q, s)) = false) := pb_no (fun h => h4 h.2.2)
          go_enter Tryz.func145, Tryz.ntmps145
          go_wp2_with fail
          refine (iName n _ hs).mono ?_
          rintro e w' ⟨rfl, hb2⟩
          have hb := hb1.trans (hb2.mono (by simp))
          have x0 := box_in hb2 0
          have x1 := box_in hb2 1
          have x2 := box_in hb2 2
          simp at x0 x1 x2
          have hz : w.heap.size < w'.heap.size := by have := hb2.size; simp at this; omega
          rw [hn]
          clear hb2 hb1
          go_wp2_with fail
          go_ret
          exact ⟨by rw [HR.out]; simp; omega, hb⟩
      · have HR : Hid (pb (KindOk (n, q, s)) = false) := pb_no (fun h => h3 h.2.1.2)
        go_enter Tryz.func145, Tryz.ntmps145
        go_wp2_with fail
        refine (iName n _ hs).mono ?_
        rintro e w' ⟨rfl, hb2⟩
        have hb := hb1.trans (hb2.mono (by simp))
        have x0 := box_in hb2 0
        have x1 := box_in hb2 1
        have x2 := box_in hb2 2
        simp at x0 x1 x2
        have hz : w.heap.size < w'.heap.size := by have := hb2.size; simp at this; omega
        rw [hn]
        clear hb2 hb1
        go_wp2_with fail
        go_ret
        exact ⟨by rw [HR.out]; rfl, hb⟩
    · have HR : Hid (pb (KindOk (n, q, s)) = false) := pb_no (fun h => h2 h.2.1.1)
      go_enter Tryz.func145, Tryz.ntmps145
      go_wp2_with fail
      refine (iName n _ hs).mono ?_
      rintro e w' ⟨rfl, hb2⟩
      have hb := hb1.trans (hb2.mono (by simp))
      have x0 := box_in hb2 0
      have x1 := box_in hb2 1
      have x2 := box_in hb2 2
      simp at x0 x1 x2
      have hz : w.heap.size < w'.heap.size := by have := hb2.size; simp at this; omega
      rw [hn]
      clear hb2 hb1
      go_wp2_with fail
      go_ret
      exact ⟨by rw [HR.out]; rfl, hb⟩
  · have hn := pb_no h1
    have HR : Hid (pb (KindOk (n, q, s)) = false) := pb_no (fun h => h1 h.1)
    go_enter Tryz.func145, Tryz.ntmps145
    go_wp2_with fail
    refine (iName n _ hs).mono ?_
    rintro e w' ⟨rfl, hb2⟩
    have hb := hb1.trans (hb2.mono (by simp))
    have x0 := box_in hb2 0
    have x1 := box_in hb2 1
    have x2 := box_in hb2 2
    simp at x0 x1 x2
    have hz : w.heap.size < w'.heap.size := by have := hb2.size; simp at this; omega
    rw [hn]
    clear hb2 hb1
    go_wp2_with fail
    go_ret
    exact ⟨by rw [HR.out]; rfl, hb⟩

set_option maxHeartbeats 1000000 in
theorem iPt (k : DPlanPoint) (w : World) (hs : k.1.size ≤ maxLen) :
    Calls Tryz.prog 147 #[.agg #[.string k.1, .int .i64 k.2.1, .int .i64 k.2.2]] w fun e w' => e = .returned (.bool (pb (PtOk k))) ∧ Below w.heap.size w w' := by
  obtain ⟨n, q, s⟩ := k
  simp only at *
  have hb1 : Below w.heap.size w (w.alloc (.cells #[.string n, .int .i64 q, .int .i64 s] 93)) := (Below.refl _ _).alloc (Nat.le_refl _) _
  by_cases h1 : NameOk n
  · have hn := pb_yes h1
    by_cases h2 : InR q 0 15
    · by_cases h3 : InR s 0 15
      · have HR : Hid (pb (PtOk (n, q, s)) = true) := pb_yes ⟨h1, h2, h3⟩
        go_enter Tryz.func147, Tryz.ntmps147
        go_wp2_with fail
        refine (iName n _ hs).mono ?_
        rintro e w' ⟨rfl, hb2⟩
        have hb := hb1.trans (hb2.mono (by simp))
        have x0 := box_in hb2 0
        have x1 := box_in hb2 1
        have x2 := box_in hb2 2
        simp at x0 x1 x2
        have hz : w.heap.size < w'.heap.size := by have := hb2.size; simp at this; omega
        rw [hn]
        clear hb2 hb1
        go_wp2_with (first | (go_at_call 109; refine (from_yes _ _ _ _ (by assumption)).mono ?_; rintro e w' ⟨rfl, rfl⟩) | (go_at_call 109; refine (from_no _ _ _ _ (by assumption)).mono ?_; rintro e w' ⟨rfl, rfl⟩))
        go_ret
        exact ⟨by rw [HR.out]; rfl, hb⟩
      · have HR : Hid (pb (PtOk (n, q, s)) = false) := pb_no (fun h => h3 h.2.2)
        go_enter Tryz.func147, Tryz.ntmps147
        go_wp2_with fail
        refine (iName n _ hs).mono ?_
        rintro e w' ⟨rfl, hb2⟩
        have hb := hb1.trans (hb2.mono (by simp))
        have x0 := box_in hb2 0
        have x1 := box_in hb2 1
        have x2 := box_in hb2 2
        simp at x0 x1 x2
        have hz : w.heap.size < w'.heap.size := by have := hb2.size; simp at this; omega
        rw [hn]
        clear hb2 hb1
        go_wp2_with (first | (go_at_call 109; refine (from_yes _ _ _ _ (by assumption)).mono ?_; rintro e w' ⟨rfl, rfl⟩) | (go_at_call 109; refine (from_no _ _ _ _ (by assumption)).mono ?_; rintro e w' ⟨rfl, rfl⟩))
        go_ret
        exact ⟨by rw [HR.out]; rfl, hb⟩
    · have HR : Hid (pb (PtOk (n, q, s)) = false) := pb_no (fun h => h2 h.2.1)
      go_enter Tryz.func147, Tryz.ntmps147
      go_wp2_with fail
      refine (iName n _ hs).mono ?_
      rintro e w' ⟨rfl, hb2⟩
      have hb := hb1.trans (hb2.mono (by simp))
      have x0 := box_in hb2 0
      have x1 := box_in hb2 1
      have x2 := box_in hb2 2
      simp at x0 x1 x2
      have hz : w.heap.size < w'.heap.size := by have := hb2.size; simp at this; omega
      rw [hn]
      clear hb2 hb1
      go_wp2_with (first | (go_at_call 109; refine (from_yes _ _ _ _ (by assumption)).mono ?_; rintro e w' ⟨rfl, rfl⟩) | (go_at_call 109; refine (from_no _ _ _ _ (by assumption)).mono ?_; rintro e w' ⟨rfl, rfl⟩))
      go_ret
      exact ⟨by rw [HR.out]; rfl, hb⟩
  · have hn := pb_no h1
    have HR : Hid (pb (PtOk (n, q, s)) = false) := pb_no (fun h => h1 h.1)
    go_enter Tryz.func147, Tryz.ntmps147
    go_wp2_with fail
    refine (iName n _ hs).mono ?_
    rintro e w' ⟨rfl, hb2⟩
    have hb := hb1.trans (hb2.mono (by simp))
    have x0 := box_in hb2 0
    have x1 := box_in hb2 1
    have x2 := box_in hb2 2
    simp at x0 x1 x2
    have hz : w.heap.size < w'.heap.size := by have := hb2.size; simp at this; omega
    rw [hn]
    clear hb2 hb1
    go_wp2_with (first | (go_at_call 109; refine (from_yes _ _ _ _ (by assumption)).mono ?_; rintro e w' ⟨rfl, rfl⟩) | (go_at_call 109; refine (from_no _ _ _ _ (by assumption)).mono ?_; rintro e w' ⟨rfl, rfl⟩))
    go_ret
    exact ⟨by rw [HR.out]; rfl, hb⟩

end Go.Proofs.YtgnjkpmbppmoeaaGreat
