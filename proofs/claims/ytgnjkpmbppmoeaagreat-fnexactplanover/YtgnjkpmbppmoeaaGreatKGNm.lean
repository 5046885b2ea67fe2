/- DERIVED. impl.skyFrom: its walk. -/
import Derived.Test.YtgnjkpmbppmoeaaGreatRows
import Derived.Test.YtgnjkpmbppmoeaaGreatKGXa
import Derived.Deep.QuietTactic
import Derived.BigQuiet
import Derived.Lib.OthersKept
import Derived.Laws.RangeAny
namespace Go.Proofs.YtgnjkpmbppmoeaaGreat
open Go.RowKit
set_option linter.unusedSimpArgs false
set_option linter.unusedVariables false

theorem from_yes (n lo hi : Int) (w : World) (h : InR n lo hi) :
    Calls Tryz.prog 109 #[.int .i64 n, .int .i64 lo, .int .i64 hi] w fun e w' => e = .returned (.bool true) ∧ w = w' := by
  obtain ⟨h1, h2⟩ := h
  go_enter Tryz.func109, Tryz.ntmps109
  go_wp2
  go_ret
  exact ⟨by simp [h1, h2], rfl⟩

theorem from_no (n lo hi : Int) (w : World) (h : ¬ InR n lo hi) :
    Calls Tryz.prog 109 #[.int .i64 n, .int .i64 lo, .int .i64 hi] w fun e w' => e = .returned (.bool false) ∧ w = w' := by
  by_cases h1 : lo ≤ n
  · have h2 : ¬ n ≤ hi := fun h2 => h ⟨h1, h2⟩
    clear h
    go_enter Tryz.func109, Tryz.ntmps109
    go_wp2
    go_ret
    exact ⟨by simp [h2]; try omega, rfl⟩
  · clear h
    go_enter Tryz.func109, Tryz.ntmps109
    go_wp2
    go_ret
    exact ⟨by simp [h1]; try omega, rfl⟩

end Go.Proofs.YtgnjkpmbppmoeaaGreat

/- DERIVED. impl.skyNameOk: its walk (a range over a string's runes). -/
namespace Go.Proofs.YtgnjkpmbppmoeaaGreat
open Go.RowKit
set_option linter.unusedSimpArgs false
set_option linter.unusedVariables false

theorem nbI_cases (r : Int) (h : (97 ≤ r ∧ r ≤ 122) ∨ (48 ≤ r ∧ r ≤ 57) ∨ r = 45) : (97 ≤ r ∧ r ≤ 122) ∨ (¬ 97 ≤ r ∧ 48 ≤ r ∧ r ≤ 57) ∨ (¬ 97 ≤ r ∧ ¬ 48 ≤ r ∧ r = 45) := by omega

/-- What a round leaves. -/
theorem itn_after {w wr : World} {s : ByteArray} {pos p : Nat} (hit : wr.heap[w.heap.size]? = some (.stringIter s pos)) (hbel : Below w.heap.size w wr) :
    (wr.iterAt w.heap.size s p).heap[w.heap.size]? = some (.stringIter s p) ∧ Below w.heap.size w (wr.iterAt w.heap.size s p) :=
  ⟨Lib.iterAt_heap _ _ _ _ _ hit, Lib.below_iterAt hbel (Nat.le_refl _) s p⟩

theorem itn_meas {wr : World} {b : Nat} {s : ByteArray} {pos p : Nat} (h1 : wr.heap[b]? = some (.stringIter s pos)) (hp : pos < s.size) (hq : pos < p) : s.size - (wr.iterAt b s p).iterPos b < s.size - wr.iterPos b := by
  rw [iterPos_of h1, iterPos_of (Lib.iterAt_heap _ _ _ _ _ h1)]; omega

set_option maxHeartbeats 1000000 in
theorem iNameOk_both (s : ByteArray) (w : World) (hs : s.size ≤ maxLen) :
    Calls Tryz.prog 123 #[.string s] w fun e w' => ((NameOk s ∧ e = .returned (.bool true)) ∨ (¬ NameOk s ∧ e = .returned (.bool false))) ∧ Below w.heap.size w w' := by
  unfold maxLen at hs
  by_cases hl : InR (s.size : Int) 1 8
  · go_enter Tryz.func123, Tryz.ntmps123
    go_wp2_with (go_at_call 109; refine (from_yes _ _ _ _ hl).mono ?_; rintro e w' ⟨rfl, rfl⟩)
    obtain ⟨hl1, hl2⟩ := hl
    go_loopw [4] (fun _ wr => ∃ pos : Nat, pos ≤ s.size ∧ Hid (∀ j (h : j < s.size), j < pos → NameByte (s[j]'h)) ∧ wr.heap[w.heap.size]? = some (.stringIter s pos) ∧ Below w.heap.size w wr) (fun _ wr => s.size - wr.iterPos w.heap.size)
    case atStart => exact ⟨0, Nat.zero_le _, fun j _ hj => by omega, World.iter_heap w s 0, (Below.refl _ _).alloc (Nat.le_refl _) _⟩
    case round =>
      obtain ⟨pos, hpos, hall, hit, hbel⟩ := hrel
      by_cases hp : pos < s.size
      · by_cases ha : s[pos].toNat < 128
        · have hnx := fun ty => Lib.run_next_ascii_at (P := Tryz.prog) wr w.heap.size s pos ty hit hp ha
          have hA := itn_after (p := pos + 1) hit hbel
          by_cases hc : NameByte s[pos]
          · have HN : Hid (∀ j (h : j < s.size), j < pos + 1 → NameByte (s[j]'h)) := fun j h hj => by
              by_cases e : j = pos
              · subst e; exact hc
              · exact hall.out j h (by omega)
            have hcases := nbI_cases (s[pos].toNat : Int) (by unfold NameByte at hc; omega)
            clear hc hall ha
            rcases hcases with ⟨h1, h2⟩ | ⟨h0, h1, h2⟩ | ⟨h0, h1, h2⟩
            all_goals
              go_wp2
              go_roundw
              case rel => exact ⟨pos + 1, by omega, HN, hA.1, hA.2⟩
              case measure => exact itn_meas hit hp (by omega)
          · have HF : Hid (¬ NameOk s) := fun h => hc (h.2.2 pos hp)
            have h0 : ¬ (97 ≤ (s[pos].toNat : Int) ∧ (s[pos].toNat : Int) ≤ 122) := fun h => hc (.inl (by omega))
            have h1 : ¬ (48 ≤ (s[pos].toNat : Int) ∧ (s[pos].toNat : Int) ≤ 57) := fun h => hc (.inr (.inl (by omega)))
            have h2 : ((s[pos].toNat : Int) == 45) = false := by
              simp only [beq_eq_false_iff_ne, ne_eq]; exact fun h => hc (.inr (.inr (by omega)))
            clear hc hall ha
            by_cases g0 : 97 ≤ (s[pos].toNat : Int) <;> by_cases g1 : 48 ≤ (s[pos].toNat : Int)
            all_goals try omega
            · have g2 : ¬ (s[pos].toNat : Int) ≤ 122 := fun h => h0 ⟨g0, h⟩
              have g3 : ¬ (s[pos].toNat : Int) ≤ 57 := fun h => h1 ⟨g1, h⟩
              clear h0 h1
              go_wp2
              go_ret
              exact ⟨.inr ⟨HF.out, rfl⟩, hA.2⟩
            · have g3 : ¬ (s[pos].toNat : Int) ≤ 57 := fun h => h1 ⟨g1, h⟩
              clear h0 h1
              go_wp2
              go_ret
              exact ⟨.inr ⟨HF.out, rfl⟩, hA.2⟩
            · clear h0 h1
              go_wp2
              go_ret
              exact ⟨.inr ⟨HF.out, rfl⟩, hA.2⟩
        · have hnx := fun ty => Lib.run_next_any_at (P := Tryz.prog) wr w.heap.size s pos ty hit hp
          have hhi := (decode_high s pos hp (by omega)).1
          obtain ⟨r, hr⟩ : ∃ r, r = (Utf8.decode s pos).1 := ⟨_, rfl⟩
          obtain ⟨p2, hp2⟩ : ∃ p, p = pos + (Utf8.decode s pos).2 := ⟨_, rfl⟩
          rw [← hr, ← hp2] at hnx
          rw [← hr] at hhi
          have hA := itn_after (p := p2) hit hbel
          have HF : Hid (¬ NameOk s) := fun h => by
            have := h.2.2 pos hp
            unfold NameByte at this
            omega
          have g0 : 97 ≤ (r : Int) := by omega
          have g1 : 48 ≤ (r : Int) := by omega
          have g2 : ¬ (r : Int) ≤ 122 := by omega
          have g3 : ¬ (r : Int) ≤ 57 := by omega
          have h2 : ((r : Int) == 45) = false := by simp; omega
          clear hall ha hr hp2 hhi
          go_wp2
          go_ret
          exact ⟨.inr ⟨HF.out, rfl⟩, hA.2⟩
      · have hnx := fun ty => Lib.run_next_end_at (P := Tryz.prog) wr w.heap.size s pos ty hit hp
        have HP : Hid (NameOk s) := ⟨by omega, by omega, fun i hi => hall.out i hi (by omega)⟩
        clear hall
        go_wp2
        go_ret
        exact ⟨.inl ⟨HP.out, rfl⟩, hbel⟩
  · have HF : Hid (¬ NameOk s) := fun h => hl ⟨by have := h.1; omega, by have := h.2.1; omega⟩
    go_enter Tryz.func123, Tryz.ntmps123
    go_wp2_with (go_at_call 109; refine (from_no _ _ _ _ hl).mono ?_; rintro e w' ⟨rfl, rfl⟩)
    go_ret
    exact ⟨.inr ⟨HF.out, rfl⟩, Below.refl _ _⟩

theorem iNameOk_yes (s : ByteArray) (w : World) (hs : s.size ≤ maxLen) (h : NameOk s) : Calls Tryz.prog 123 #[.string s] w fun e w' => e = .returned (.bool true) ∧ Below w.heap.size w w' :=
  (iNameOk_both s w hs).mono fun e w' h1 => ⟨by
    rcases h1.1 with h2 | h2
    · exact h2.2
    · exact absurd h h2.1, h1.2⟩
theorem iNameOk_no (s : ByteArray) (w : World) (hs : s.size ≤ maxLen) (h : ¬ NameOk s) : Calls Tryz.prog 123 #[.string s] w fun e w' => e = .returned (.bool false) ∧ Below w.heap.size w w' :=
  (iNameOk_both s w hs).mono fun e w' h1 => ⟨by
    rcases h1.1 with h2 | h2
    · exact absurd h2.1 h
    · exact h2.2, h1.2⟩

end Go.Proofs.YtgnjkpmbppmoeaaGreat
