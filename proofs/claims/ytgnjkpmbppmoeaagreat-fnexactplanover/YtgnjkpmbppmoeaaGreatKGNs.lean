/- DERIVED. spec.l11In, spec.l11NameOk: their walks. -/
import Derived.Test.YtgnjkpmbppmoeaaGreatRows
import Derived.Test.YtgnjkpmbppmoeaaGreatKGXa
import Derived.Deep.QuietTactic
import Derived.BigQuiet
namespace Go.Proofs.YtgnjkpmbppmoeaaGreat
open Go.RowKit
set_option linter.unusedSimpArgs false
set_option linter.unusedVariables false

theorem s11in_yes (n lo hi : Int) (w : World) (h : InR n lo hi) :
    Calls Tryz.prog 81 #[.int .i64 n, .int .i64 lo, .int .i64 hi] w fun e w' => e = .returned (.bool true) ∧ w' = w := by
  obtain ⟨h1, h2⟩ := h
  go_enter Tryz.func81, Tryz.ntmps81
  go_wp2
  go_ret
  exact ⟨by simp [h1, h2], rfl⟩

theorem s11in_no (n lo hi : Int) (w : World) (h : ¬ InR n lo hi) :
    Calls Tryz.prog 81 #[.int .i64 n, .int .i64 lo, .int .i64 hi] w fun e w' => e = .returned (.bool false) ∧ w' = w := by
  by_cases h1 : lo ≤ n
  · have h2 : ¬ n ≤ hi := fun h2 => h ⟨h1, h2⟩
    clear h
    go_enter Tryz.func81, Tryz.ntmps81
    go_wp2
    go_ret
    exact ⟨by simp [h2]; try omega, rfl⟩
  · clear h
    go_enter Tryz.func81, Tryz.ntmps81
    go_wp2
    go_ret
    exact ⟨by simp [h1]; try omega, rfl⟩

theorem s11name_small {s : ByteArray} (hs : s.size ≤ maxLen) : s.size ≤ 9223372036854775807 := hs

/-- Which test says that a byte is one of a name. -/
theorem s11nb_cases (c : UInt8) (h : NameByte c) : (97 ≤ (c.toNat : Int) ∧ (c.toNat : Int) ≤ 122) ∨ (¬ 97 ≤ (c.toNat : Int) ∧ 48 ≤ (c.toNat : Int) ∧ (c.toNat : Int) ≤ 57) ∨ (¬ 48 ≤ (c.toNat : Int) ∧ (c.toNat : Int) = 45) := by
  unfold NameByte at h; omega

set_option maxHeartbeats 1000000 in
theorem s11nameOk_both (s : ByteArray) (w : World) (hs : s.size ≤ maxLen) :
    Calls Tryz.prog 93 #[.string s] w fun e w' => ((NameOk s ∧ e = .returned (.bool true)) ∨ (¬ NameOk s ∧ e = .returned (.bool false))) ∧ w' = w := by
  unfold maxLen at hs
  by_cases hl : InR (s.size : Int) 1 8
  · go_enter Tryz.func93, Tryz.ntmps93
    go_wp2_with (go_at_call 81; refine (s11in_yes _ _ _ _ hl).mono ?_; rintro e w' ⟨rfl, rfl⟩)
    obtain ⟨hl1, hl2⟩ := hl
    go_loop [3] (fun i => ∃ k : Nat, k ≤ s.size ∧ i = .int .i64 k ∧ Hid (∀ j (h : j < s.size), j < k → NameByte (s[j]'h))) (fun i => s.size - (intOf i).toNat)
    case atStart => exact ⟨0, Nat.zero_le _, rfl, fun j _ hj => by omega⟩
    case round =>
      obtain ⟨k, hk, rfl, hall⟩ := hrel
      by_cases hlt : k < s.size
      · have hb : s[k].toNat < 256 := s[k].toNat_lt
        by_cases hc : NameByte s[k]
        · have HN : Hid (∀ j (h : j < s.size), j < k + 1 → NameByte (s[j]'h)) := fun j h hj => by
            by_cases e : j = k
            · subst e; exact hc
            · exact hall.out j h (by omega)
          rcases s11nb_cases _ hc with h1 | h1 | h1
          · obtain ⟨h1, h2⟩ := h1
            clear hc hall
            go_wp2
            go_round
            case rel => exact ⟨k + 1, by omega, by go_num, HN⟩
            case measure => simp [intOf]; omega
          · obtain ⟨h1, h2, h3⟩ := h1
            clear hc hall
            go_wp2
            go_round
            case rel => exact ⟨k + 1, by omega, by go_num, HN⟩
            case measure => simp [intOf]; omega
          · obtain ⟨h1, h2⟩ := h1
            have h3 : ¬ 97 ≤ (s[k].toNat : Int) := by omega
            have h4 : ((s[k].toNat : Int) == 45) = true := by simp; omega
            clear hc hall h2
            go_wp2
            go_round
            case rel => exact ⟨k + 1, by omega, by go_num, HN⟩
            case measure => simp [intOf]; omega
        · have HN : Hid (¬ NameOk s) := fun h => hc (h.2.2 k hlt)
          have h4 : ((s[k].toNat : Int) == 45) = false := by unfold NameByte at hc; simp; omega
          have hh : (¬ 97 ≤ (s[k].toNat : Int) ∧ ¬ 48 ≤ (s[k].toNat : Int)) ∨ (¬ 97 ≤ (s[k].toNat : Int) ∧ 48 ≤ (s[k].toNat : Int) ∧ ¬ (s[k].toNat : Int) ≤ 57) ∨ (97 ≤ (s[k].toNat : Int) ∧ ¬ (s[k].toNat : Int) ≤ 122) := by unfold NameByte at hc; omega
          clear hc hall
          rcases hh with h | h | h
          · obtain ⟨h1, h2⟩ := h
            go_wp2
            go_ret
            exact ⟨.inr ⟨HN.out, rfl⟩, rfl⟩
          · obtain ⟨h1, h2, h3⟩ := h
            go_wp2
            go_ret
            exact ⟨.inr ⟨HN.out, rfl⟩, rfl⟩
          · obtain ⟨h1, h2⟩ := h
            have h3 : ¬ (s[k].toNat : Int) ≤ 57 := by omega
            have h5 : 48 ≤ (s[k].toNat : Int) := by omega
            go_wp2
            go_ret
            exact ⟨.inr ⟨HN.out, rfl⟩, rfl⟩
      · have HN : Hid (NameOk s) := ⟨by omega, by omega, fun j h => hall.out j h (by omega)⟩
        go_wp2
        go_ret
        exact ⟨.inl ⟨HN.out, rfl⟩, rfl⟩
  · have HN : Hid (¬ NameOk s) := fun h => hl ⟨by have := h.1; omega, by have := h.2.1; omega⟩
    go_enter Tryz.func93, Tryz.ntmps93
    go_wp2_with (go_at_call 81; refine (s11in_no _ _ _ _ hl).mono ?_; rintro e w' ⟨rfl, rfl⟩)
    go_ret
    exact ⟨.inr ⟨HN.out, rfl⟩, rfl⟩

theorem s11nameOk_yes (s : ByteArray) (w : World) (hs : s.size ≤ maxLen) (h : NameOk s) : Calls Tryz.prog 93 #[.string s] w fun e w' => e = .returned (.bool true) ∧ w' = w :=
  (s11nameOk_both s w hs).mono fun e w' h1 => by
    rcases h1 with ⟨⟨_, h2⟩ | ⟨h2, _⟩, h3⟩
    · exact ⟨h2, h3⟩
    · exact absurd h h2

theorem s11nameOk_no (s : ByteArray) (w : World) (hs : s.size ≤ maxLen) (h : ¬ NameOk s) : Calls Tryz.prog 93 #[.string s] w fun e w' => e = .returned (.bool false) ∧ w' = w :=
  (s11nameOk_both s w hs).mono fun e w' h1 => by
    rcases h1 with ⟨⟨h2, _⟩ | ⟨_, h2⟩, h3⟩
    · exact absurd h2 h
    · exact ⟨h2, h3⟩

end Go.Proofs.YtgnjkpmbppmoeaaGreat

/- DERIVED. spec.l11KindOk, spec.l11PointOk: their walks. -/
namespace Go.Proofs.YtgnjkpmbppmoeaaGreat
open Go.RowKit
set_option linter.unusedSimpArgs false
set_option linter.unusedVariables false

set_option maxHeartbeats 1000000 in
theorem sKind (k : DPlanKind) (w : World) (hs : k.1.size ≤ maxLen) :
    Calls Tryz.prog 91 #[.agg #[.string k.1, .int .i64 k.2.1, .int .i64 k.2.2]] w fun e w' => e = .returned (.bool (pb (KindOk k))) ∧ Below w.heap.size w w' := by
  obtain ⟨n, q, s⟩ := k
  simp only at *
  have hb : Below w.heap.size w (w.alloc (.cells #[.string n, .int .i64 q, .int .i64 s] 31)) := (Below.refl _ _).alloc (Nat.le_refl _) _
  by_cases h1 : NameOk n
  · by_cases h2 : InR q 1 s
    · by_cases h3 : s ≤ 50
      · have HR : Hid (pb (KindOk (n, q, s)) = true) := pb_yes ⟨h1, h2, h3⟩
        go_enter Tryz.func91, Tryz.ntmps91
        go_wp2_with (first | (go_at_call 93; refine (s11nameOk_yes _ _ hs h1).mono ?_; rintro e w' ⟨rfl, rfl⟩) | (go_at_call 81; refine (s11in_yes _ _ _ _ h2).mono ?_; rintro e w' ⟨rfl, rfl⟩))
        go_ret
        exact ⟨by rw [HR.out]; try simp [h3], hb⟩
      · have HR : Hid (pb (KindOk (n, q, s)) = false) := pb_no (fun h => h3 h.2.2)
        go_enter Tryz.func91, Tryz.ntmps91
        go_wp2_with (first | (go_at_call 93; refine (s11nameOk_yes _ _ hs h1).mono ?_; rintro e w' ⟨rfl, rfl⟩) | (go_at_call 81; refine (s11in_yes _ _ _ _ h2).mono ?_; rintro e w' ⟨rfl, rfl⟩))
        go_ret
        exact ⟨by rw [HR.out]; try simp [h3], hb⟩
    · have HR : Hid (pb (KindOk (n, q, s)) = false) := pb_no (fun h => h2 h.2.1)
      go_enter Tryz.func91, Tryz.ntmps91
      go_wp2_with (first | (go_at_call 93; refine (s11nameOk_yes _ _ hs h1).mono ?_; rintro e w' ⟨rfl, rfl⟩) | (go_at_call 81; refine (s11in_no _ _ _ _ h2).mono ?_; rintro e w' ⟨rfl, rfl⟩))
      go_ret
      exact ⟨by rw [HR.out]; rfl, hb⟩
  · have HR : Hid (pb (KindOk (n, q, s)) = false) := pb_no (fun h => h1 h.1)
    go_enter Tryz.func91, Tryz.ntmps91
    go_wp2_with (go_at_call 93; refine (s11nameOk_no _ _ hs h1).mono ?_; rintro e w' ⟨rfl, rfl⟩)
    go_ret
    exact ⟨by rw [HR.out]; rfl, hb⟩

set_option maxHeartbeats 1000000 in
theorem sPt (k : DPlanPoint) (w : World) (hs : k.1.size ≤ maxLen) :
    Calls Tryz.prog 92 #[.agg #[.string k.1, .int .i64 k.2.1, .int .i64 k.2.2]] w fun e w' => e = .returned (.bool (pb (PtOk k))) ∧ Below w.heap.size w w' := by
  obtain ⟨n, q, s⟩ := k
  simp only at *
  have hb : Below w.heap.size w (w.alloc (.cells #[.string n, .int .i64 q, .int .i64 s] 93)) := (Below.refl _ _).alloc (Nat.le_refl _) _
  by_cases h1 : NameOk n
  · by_cases h2 : InR q 0 15
    · by_cases h3 : InR s 0 15
      · have HR : Hid (pb (PtOk (n, q, s)) = true) := pb_yes ⟨h1, h2, h3⟩
        go_enter Tryz.func92, Tryz.ntmps92
        go_wp2_with (first | (go_at_call 93; refine (s11nameOk_yes _ _ hs h1).mono ?_; rintro e w' ⟨rfl, rfl⟩) | (go_at_call 81; refine (s11in_yes _ _ _ _ (by assumption)).mono ?_; rintro e w' ⟨rfl, rfl⟩))
        go_ret
        exact ⟨by rw [HR.out]; rfl, hb⟩
      · have HR : Hid (pb (PtOk (n, q, s)) = false) := pb_no (fun h => h3 h.2.2)
        go_enter Tryz.func92, Tryz.ntmps92
        go_wp2_with (first | (go_at_call 93; refine (s11nameOk_yes _ _ hs h1).mono ?_; rintro e w' ⟨rfl, rfl⟩) | (go_at_call 81; refine (s11in_yes _ _ _ _ (by assumption)).mono ?_; rintro e w' ⟨rfl, rfl⟩) | (go_at_call 81; refine (s11in_no _ _ _ _ (by assumption)).mono ?_; rintro e w' ⟨rfl, rfl⟩))
        go_ret
        exact ⟨by rw [HR.out]; rfl, hb⟩
    · have HR : Hid (pb (PtOk (n, q, s)) = false) := pb_no (fun h => h2 h.2.1)
      go_enter Tryz.func92, Tryz.ntmps92
      go_wp2_with (first | (go_at_call 93; refine (s11nameOk_yes _ _ hs h1).mono ?_; rintro e w' ⟨rfl, rfl⟩) | (go_at_call 81; refine (s11in_no _ _ _ _ h2).mono ?_; rintro e w' ⟨rfl, rfl⟩))
      go_ret
      exact ⟨by rw [HR.out]; rfl, hb⟩
  · have HR : Hid (pb (PtOk (n, q, s)) = false) := pb_no (fun h => h1 h.1)
    go_enter Tryz.func92, Tryz.ntmps92
    go_wp2_with (go_at_call 93; refine (s11nameOk_no _ _ hs h1).mono ?_; rintro e w' ⟨rfl, rfl⟩)
    go_ret
    exact ⟨by rw [HR.out]; rfl, hb⟩

end Go.Proofs.YtgnjkpmbppmoeaaGreat
