/- DERIVED. impl.planNameOk, the methods aloneOk and name of kinds and points: their walks. -/
import Derived.Test.YtfkpmiemjkbcaaaPlD
import Derived.Test.YtfkpmiemjkbcaaaNm1
namespace Go.Proofs.Ytfkpmiemjkbcaaa
open Go.RowKit
set_option linter.unusedSimpArgs false
set_option linter.unusedVariables false

theorem iName (s : ByteArray) (w : World) (hs : s.size ≤ maxLen) :
    Calls Try.prog 30 #[.string s] w fun e w' => e = .returned (.bool (pb (NameOk s))) ∧ Below w.heap.size w w' := by
  have hs2 : s.size ≤ 9223372036854775807 := hs
  by_cases h1 : s.size ≤ 8
  · have h1I : (s.size : Int) ≤ 8 := by omega
    by_cases h2 : NameOk s
    · have HR : Hid (pb (NameOk s) = true) := pb_yes h2
      go_enter Try.func30, Try.ntmps30
      go_wp2_with fail
      refine (iNameOk_yes s _ hs h2).mono ?_
      rintro e w' ⟨rfl, hb⟩
      clear h2
      go_wp2
      go_ret
      exact ⟨by rw [HR.out]; rfl, hb⟩
    · have HR : Hid (pb (NameOk s) = false) := pb_no h2
      go_enter Try.func30, Try.ntmps30
      go_wp2_with fail
      refine (iNameOk_no s _ hs h2).mono ?_
      rintro e w' ⟨rfl, hb⟩
      clear h2
      go_wp2
      go_ret
      exact ⟨by rw [HR.out]; rfl, hb⟩
  · have HR : Hid (pb (NameOk s) = false) := pb_no (fun h => h1 h.2.1)
    have h1I : ¬ (s.size : Int) ≤ 8 := by omega
    go_enter Try.func30, Try.ntmps30
    go_wp2_with fail
    go_ret
    exact ⟨by rw [HR.out]; try simp [h1I], Below.refl _ _⟩

theorem iNmKind (s : ByteArray) (v1 v2 : Value) (w : World) : Calls Try.prog 61 #[.agg #[.string s, v1, v2]] w fun e w' => e = .returned (.string s) ∧ Below w.heap.size w w' := by
  go_enter Try.func61, Try.ntmps61
  go_wp2
  go_ret
  exact ⟨rfl, (Below.refl _ _).alloc (Nat.le_refl _) _⟩

theorem iNmPt (s : ByteArray) (v1 v2 : Value) (w : World) : Calls Try.prog 63 #[.agg #[.string s, v1, v2]] w fun e w' => e = .returned (.string s) ∧ Below w.heap.size w w' := by
  go_enter Try.func63, Try.ntmps63
  go_wp2
  go_ret
  exact ⟨rfl, (Below.refl _ _).alloc (Nat.le_refl _) _⟩

theorem box_in {w wr : World} {cs : Array Value} {t : TypeId} (h : Below (w.alloc (.cells cs t)).heap.size (w.alloc (.cells cs t)) wr) (i : Nat) : wr.cell? ⟨w.heap.size, i, none⟩ = cs[i]? := by
  rw [h.cell (p := ⟨w.heap.size, i, none⟩) (by simp)]
  have : (w.alloc (.cells cs t)).heap[w.heap.size]? = some (.cells cs t (0, 0)) := heap_alloc_new w _
  unfold World.cell?
  simp only [this]
  rfl

set_option maxHeartbeats 1000000 in
theorem iKind (k : DPlanKind) (w : World) (hs : k.1.size ≤ maxLen) :
    Calls Try.prog 60 #[.agg #[.string k.1, .int .i64 k.2.1, .int .i64 k.2.2]] w fun e w' => e = .returned (.bool (pb (KindOk k))) ∧ Below w.heap.size w w' := by
  obtain ⟨n, q, s⟩ := k
  simp only at *
  have hb1 : Below w.heap.size w (w.alloc (.cells #[.string n, .int .i64 q, .int .i64 s] 69)) := (Below.refl _ _).alloc (Nat.le_refl _) _
  by_cases h1 : NameOk n
  · have hn := pb_yes h1
    by_cases h2 : 1 ≤ q
    · by_cases h3 : q ≤ s
      · by_cases h4 : s ≤ 50
        · have HR : Hid (pb (KindOk (n, q, s)) = true) := pb_yes ⟨h1, ⟨h2, h3⟩, h4⟩
          go_enter Try.func60, Try.ntmps60
          go_wp2_with fail
          refine (iName n _ hs).mono ?_
          rintro e w' ⟨rfl, hb2⟩
          have hb := hb1.trans (hb2.mono (by simp))
          have x0 := box_in hb2 0
          have x1 := box_in hb2 1
          have x2 := box_in hb2 2
          simp at x0 x1 x2
          have hz : w.heap.size < w'.heap.size := by have := hb2.size; simp at this; omega
          rw [hn]
          clear hb2 hb1
          go_wp2_with fail
          go_ret
          exact ⟨by rw [HR.out]; simp [h4], hb⟩
        · have HR : Hid (pb (KindOk (n, q, s)) = false) := pb_no (fun h => h4 h.2.2)
          go_enter Try.func60, Try.ntmps60
          go_wp2_with fail
          refine (iName n _ hs).mono ?_
          rintro e w' ⟨rfl, hb2⟩
          have hb := hb1.trans (hb2.mono (by simp))
          have x0 := box_in hb2 0
          have x1 := box_in hb2 1
          have x2 := box_in hb2 2
          simp at x0 x1 x2
          have hz : w.heap.size < w'.heap.size := by have := hb2.size; simp at this; omega
          rw [hn]
          clear hb2 hb1
          go_wp2_with fail
          go_ret
          exact ⟨by rw [HR.out]; simp; omega, hb⟩
      · have HR : Hid (pb (KindOk (n, q, s)) = false) := pb_no (fun h => h3 h.2.1.2)
        go_enter Try.func60, Try.ntmps60
        go_wp2_with fail
        refine (iName n _ hs).mono ?_
        rintro e w' ⟨rfl, hb2⟩
        have hb := hb1.trans (hb2.mono (by simp))
        have x0 := box_in hb2 0
        have x1 := box_in hb2 1
        have x2 := box_in hb2 2
        simp at x0 x1 x2
        have hz : w.heap.size < w'.heap.size := by have := hb2.size; simp at this; omega
        rw [hn]
        clear hb2 hb1
        go_wp2_with fail
        go_ret
        exact ⟨by rw [HR.out]; rfl, hb⟩
    · have HR : Hid (pb (KindOk (n, q, s)) = false) := pb_no (fun h => h2 h.2.1.1)
      go_enter Try.func60, Try.ntmps60
      go_wp2_with fail
      refine (iName n _ hs).mono ?_
      rintro e w' ⟨rfl, hb2⟩
      have hb := hb1.trans (hb2.mono (by simp))
      have x0 := box_in hb2 0
      have x1 := box_in hb2 1
      have x2 := box_in hb2 2
      simp at x0 x1 x2
      have hz : w.heap.size < w'.heap.size := by have := hb2.size; simp at this; omega
      rw [hn]
      clear hb2 hb1
      go_wp2_with fail
      go_ret
      exact ⟨by rw [HR.out]; rfl, hb⟩
  · have hn := pb_no h1
    have HR : Hid (pb (KindOk (n, q, s)) = false) := pb_no (fun h => h1 h.1)
    go_enter Try.func60, Try.ntmps60
    go_wp2_with fail
    refine (iName n _ hs).mono ?_
    rintro e w' ⟨rfl, hb2⟩
    have hb := hb1.trans (hb2.mono (by simp))
    have x0 := box_in hb2 0
    have x1 := box_in hb2 1
    have x2 := box_in hb2 2
    simp at x0 x1 x2
    have hz : w.heap.size < w'.heap.size := by have := hb2.size; simp at this; omega
    rw [hn]
    clear hb2 hb1
    go_wp2_with fail
    go_ret
    exact ⟨by rw [HR.out]; rfl, hb⟩

set_option maxHeartbeats 1000000 in
theorem iPt (k : DPlanPoint) (w : World) (hs : k.1.size ≤ maxLen) :
    Calls Try.prog 62 #[.agg #[.string k.1, .int .i64 k.2.1, .int .i64 k.2.2]] w fun e w' => e = .returned (.bool (pb (PtOk k))) ∧ Below w.heap.size w w' := by
  obtain ⟨n, q, s⟩ := k
  simp only at *
  have hb1 : Below w.heap.size w (w.alloc (.cells #[.string n, .int .i64 q, .int .i64 s] 71)) := (Below.refl _ _).alloc (Nat.le_refl _) _
  by_cases h1 : NameOk n
  · have hn := pb_yes h1
    by_cases h2 : InR q 0 15
    · by_cases h3 : InR s 0 15
      · have HR : Hid (pb (PtOk (n, q, s)) = true) := pb_yes ⟨h1, h2, h3⟩
        go_enter Try.func62, Try.ntmps62
        go_wp2_with fail
        refine (iName n _ hs).mono ?_
        rintro e w' ⟨rfl, hb2⟩
        have hb := hb1.trans (hb2.mono (by simp))
        have x0 := box_in hb2 0
        have x1 := box_in hb2 1
        have x2 := box_in hb2 2
        simp at x0 x1 x2
        have hz : w.heap.size < w'.heap.size := by have := hb2.size; simp at this; omega
        rw [hn]
        clear hb2 hb1
        go_wp2_with (first | (go_at_call 31; refine (from_yes _ _ _ _ (by assumption)).mono ?_; rintro e w' ⟨rfl, rfl⟩) | (go_at_call 31; refine (from_no _ _ _ _ (by assumption)).mono ?_; rintro e w' ⟨rfl, rfl⟩))
        go_ret
        exact ⟨by rw [HR.out]; rfl, hb⟩
      · have HR : Hid (pb (PtOk (n, q, s)) = false) := pb_no (fun h => h3 h.2.2)
        go_enter Try.func62, Try.ntmps62
        go_wp2_with fail
        refine (iName n _ hs).mono ?_
        rintro e w' ⟨rfl, hb2⟩
        have hb := hb1.trans (hb2.mono (by simp))
        have x0 := box_in hb2 0
        have x1 := box_in hb2 1
        have x2 := box_in hb2 2
        simp at x0 x1 x2
        have hz : w.heap.size < w'.heap.size := by have := hb2.size; simp at this; omega
        rw [hn]
        clear hb2 hb1
        go_wp2_with (first | (go_at_call 31; refine (from_yes _ _ _ _ (by assumption)).mono ?_; rintro e w' ⟨rfl, rfl⟩) | (go_at_call 31; refine (from_no _ _ _ _ (by assumption)).mono ?_; rintro e w' ⟨rfl, rfl⟩))
        go_ret
        exact ⟨by rw [HR.out]; rfl, hb⟩
    · have HR : Hid (pb (PtOk (n, q, s)) = false) := pb_no (fun h => h2 h.2.1)
      go_enter Try.func62, Try.ntmps62
      go_wp2_with fail
      refine (iName n _ hs).mono ?_
      rintro e w' ⟨rfl, hb2⟩
      have hb := hb1.trans (hb2.mono (by simp))
      have x0 := box_in hb2 0
      have x1 := box_in hb2 1
      have x2 := box_in hb2 2
      simp at x0 x1 x2
      have hz : w.heap.size < w'.heap.size := by have := hb2.size; simp at this; omega
      rw [hn]
      clear hb2 hb1
      go_wp2_with (first | (go_at_call 31; refine (from_yes _ _ _ _ (by assumption)).mono ?_; rintro e w' ⟨rfl, rfl⟩) | (go_at_call 31; refine (from_no _ _ _ _ (by assumption)).mono ?_; rintro e w' ⟨rfl, rfl⟩))
      go_ret
      exact ⟨by rw [HR.out]; rfl, hb⟩
  · have hn := pb_no h1
    have HR : Hid (pb (PtOk (n, q, s)) = false) := pb_no (fun h => h1 h.1)
    go_enter Try.func62, Try.ntmps62
    go_wp2_with fail
    refine (iName n _ hs).mono ?_
    rintro e w' ⟨rfl, hb2⟩
    have hb := hb1.trans (hb2.mono (by simp))
    have x0 := box_in hb2 0
    have x1 := box_in hb2 1
    have x2 := box_in hb2 2
    simp at x0 x1 x2
    have hz : w.heap.size < w'.heap.size := by have := hb2.size; simp at this; omega
    rw [hn]
    clear hb2 hb1
    go_wp2_with (first | (go_at_call 31; refine (from_yes _ _ _ _ (by assumption)).mono ?_; rintro e w' ⟨rfl, rfl⟩) | (go_at_call 31; refine (from_no _ _ _ _ (by assumption)).mono ?_; rintro e w' ⟨rfl, rfl⟩))
    go_ret
    exact ⟨by rw [HR.out]; rfl, hb⟩

end Go.Proofs.Ytfkpmiemjkbcaaa
