/- DERIVED. spec.l11KindOk, spec.l11PointOk: their walks. -/
import Derived.Test.YtgnjkpmbppmoeaaGreatGXa
import Derived.Test.YtgnjkpmbppmoeaaGreatNs0
namespace Go.Proofs.YtgnjkpmbppmoeaaGreat
open Go.RowKit
set_option linter.unusedSimpArgs false
set_option linter.unusedVariables false

set_option maxHeartbeats 1000000 in
theorem sKind (k : DPlanKind) (w : World) (hs : k.1.size ≤ maxLen) :
    Calls Tryz.prog 91 #[.agg #[.string k.1, .int .i64 k.2.1, .int .i64 k.2.2]] w fun e w' => e = .returned (.bool (pb (KindOk k))) ∧ Below w.heap.size w w' := by
  obtain ⟨n, q, s⟩ := k
  simp only at *
  have hb : Below w.heap.size w (w.alloc (.cells #[.string n, .int .i64 q, .int .i64 s] 31)) := (Below.refl _ _).alloc (Nat.le_refl _) _
  by_cases h1 : NameOk n
  · by_cases h2 : InR q 1 s
    · by_cases h3 : s ≤ 50
      · have HR : Hid (pb (KindOk (n, q, s)) = true) := pb_yes ⟨h1, h2, h3⟩
        go_enter Tryz.func91, Tryz.ntmps91
        go_wp2_with (first | (go_at_call 93; refine (s11nameOk_yes _ _ hs h1).mono ?_; rintro e w' ⟨rfl, rfl⟩) | (go_at_call 81; refine (s11in_yes _ _ _ _ h2).mono ?_; rintro e w' ⟨rfl, rfl⟩))
        go_ret
        exact ⟨by rw [HR.out]; try simp [h3], hb⟩
      · have HR : Hid (pb (KindOk (n, q, s)) = false) := pb_no (fun h => h3 h.2.2)
        go_enter Tryz.func91, Tryz.ntmps91
        go_wp2_with (first | (go_at_call 93; refine (s11nameOk_yes _ _ hs h1).mono ?_; rintro e w' ⟨rfl, rfl⟩) | (go_at_call 81; refine (s11in_yes _ _ _ _ h2).mono ?_; rintro e w' ⟨rfl, rfl⟩))
        go_ret
        exact ⟨by rw [HR.out]; try simp [h3], hb⟩
    · have HR : Hid (pb (KindOk (n, q, s)) = false) := pb_no (fun h => h2 h.2.1)
      go_enter Tryz.func91, Tryz.ntmps91
      go_wp2_with (first | (go_at_call 93; refine (s11nameOk_yes _ _ hs h1).mono ?_; rintro e w' ⟨rfl, rfl⟩) | (go_at_call 81; refine (s11in_no _ _ _ _ h2).mono ?_; rintro e w' ⟨rfl, rfl⟩))
      go_ret
      exact ⟨by rw [HR.out]; rfl, hb⟩
  · have HR : Hid (pb (KindOk (n, q, s)) = false) := pb_no (fun h => h1 h.1)
    go_enter Tryz.func91, Tryz.ntmps91
    go_wp2_with (go_at_call 93; refine (s11nameOk_no _ _ hs h1).mono ?_; rintro e w' ⟨rfl, rfl⟩)
    go_ret
    exact ⟨by rw [HR.out]; rfl, hb⟩

set_option maxHeartbeats 1000000 in
theorem sPt (k : DPlanPoint) (w : World) (hs : k.1.size ≤ maxLen) :
    Calls Tryz.prog 92 #[.agg #[.string k.1, .int .i64 k.2.1, .int .i64 k.2.2]] w fun e w' => e = .returned (.bool (pb (PtOk k))) ∧ Below w.heap.size w w' := by
  obtain ⟨n, q, s⟩ := k
  simp only at *
  have hb : Below w.heap.size w (w.alloc (.cells #[.string n, .int .i64 q, .int .i64 s] 93)) := (Below.refl _ _).alloc (Nat.le_refl _) _
  by_cases h1 : NameOk n
  · by_cases h2 : InR q 0 15
    · by_cases h3 : InR s 0 15
      · have HR : Hid (pb (PtOk (n, q, s)) = true) := pb_yes ⟨h1, h2, h3⟩
        go_enter Tryz.func92, Tryz.ntmps92
        go_wp2_with (first | (go_at_call 93; refine (s11nameOk_yes _ _ hs h1).mono ?_; rintro e w' ⟨rfl, rfl⟩) | (go_at_call 81; refine (s11in_yes _ _ _ _ (by assumption)).mono ?_; rintro e w' ⟨rfl, rfl⟩))
        go_ret
        exact ⟨by rw [HR.out]; rfl, hb⟩
      · have HR : Hid (pb (PtOk (n, q, s)) = false) := pb_no (fun h => h3 h.2.2)
        go_enter Tryz.func92, Tryz.ntmps92
        go_wp2_with (first | (go_at_call 93; refine (s11nameOk_yes _ _ hs h1).mono ?_; rintro e w' ⟨rfl, rfl⟩) | (go_at_call 81; refine (s11in_yes _ _ _ _ (by assumption)).mono ?_; rintro e w' ⟨rfl, rfl⟩) | (go_at_call 81; refine (s11in_no _ _ _ _ (by assumption)).mono ?_; rintro e w' ⟨rfl, rfl⟩))
        go_ret
        exact ⟨by rw [HR.out]; rfl, hb⟩
    · have HR : Hid (pb (PtOk (n, q, s)) = false) := pb_no (fun h => h2 h.2.1)
      go_enter Tryz.func92, Tryz.ntmps92
      go_wp2_with (first | (go_at_call 93; refine (s11nameOk_yes _ _ hs h1).mono ?_; rintro e w' ⟨rfl, rfl⟩) | (go_at_call 81; refine (s11in_no _ _ _ _ h2).mono ?_; rintro e w' ⟨rfl, rfl⟩))
      go_ret
      exact ⟨by rw [HR.out]; rfl, hb⟩
  · have HR : Hid (pb (PtOk (n, q, s)) = false) := pb_no (fun h => h1 h.1)
    go_enter Tryz.func92, Tryz.ntmps92
    go_wp2_with (go_at_call 93; refine (s11nameOk_no _ _ hs h1).mono ?_; rintro e w' ⟨rfl, rfl⟩)
    go_ret
    exact ⟨by rw [HR.out]; rfl, hb⟩

end Go.Proofs.YtgnjkpmbppmoeaaGreat
