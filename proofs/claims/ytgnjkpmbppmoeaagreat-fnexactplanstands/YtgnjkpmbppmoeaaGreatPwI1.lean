/- DERIVED. impl.planDecimal: its walk. -/
import Derived.Test.YtgnjkpmbppmoeaaGreatGPw
import Derived.Test.YtgnjkpmbppmoeaaGreatGNm
import Derived.Test.YtgnjkpmbppmoeaaGreatGXa
import Derived.Lib.OthersKept
namespace Go.Proofs.YtgnjkpmbppmoeaaGreat
open Go.RowKit
set_option linter.unusedSimpArgs false
set_option linter.unusedVariables false

/-- The number of a word that is a decimal, 0 of others. -/
noncomputable def decZ (s : ByteArray) : Int := if pb (DecOk s) then decN s else 0

theorem itd_after {w wr : World} {s : ByteArray} {pos p : Nat} (hit : wr.heap[w.heap.size]? = some (.stringIter s pos)) (hbel : Below w.heap.size w wr) :
    (wr.iterAt w.heap.size s p).heap[w.heap.size]? = some (.stringIter s p) ∧ Below w.heap.size w (wr.iterAt w.heap.size s p) :=
  ⟨Lib.iterAt_heap _ _ _ _ _ hit, Lib.below_iterAt hbel (Nat.le_refl _) s p⟩
theorem itd_meas {wr : World} {b : Nat} {s : ByteArray} {pos p : Nat} (h1 : wr.heap[b]? = some (.stringIter s pos)) (hp : pos < s.size) (hq : pos < p) : s.size - (wr.iterAt b s p).iterPos b < s.size - wr.iterPos b := by
  rw [iterPos_of h1, iterPos_of (Lib.iterAt_heap _ _ _ _ _ h1)]; omega

theorem decZ_no {s : ByteArray} (h : ¬ DecOk s) : Hid (pb (DecOk s) = false ∧ decZ s = 0) := ⟨pb_no h, by unfold decZ; rw [pb_no h]; rfl⟩
theorem decZ_yes {s : ByteArray} (h : DecOk s) : Hid (pb (DecOk s) = true ∧ decZ s = numTo s s.size) := ⟨pb_yes h, by unfold decZ; rw [pb_yes h]; rfl⟩

set_option maxRecDepth 100000 in
set_option maxHeartbeats 2000000 in
theorem iDec (s : ByteArray) (w : World) (hs : s.size ≤ maxLen) :
    Calls Tryz.prog 155 #[.string s] w fun e w' => e = .returned (.tuple #[.int .i64 (decZ s), .bool (pb (DecOk s))]) ∧ Below w.heap.size w w' := by
  unfold maxLen at hs
  by_cases hl : InR (s.size : Int) 1 7
  · have hl1 := hl.1
    have hl2 := hl.2
    have hp0 : 0 < s.size := by omega
    by_cases hz : 1 < s.size ∧ bAt s 0 = 48
    · have HF := decZ_no (s := s) (fun h => h.2.1 hz)
      obtain ⟨hz1, hz2⟩ := hz
      have hd : decide ((1 : Int) < (s.size : Int)) = true := by simp; omega
      have h48 : ((s[0].toNat : Int) == 48) = true := by rw [← bAt_eq hp0, hz2]; rfl
      have hb : s[0].toNat < 256 := UInt8.toNat_lt _
      clear hz2
      go_enter Tryz.func155, Tryz.ntmps155
      go_wp2_with (go_at_call 109; refine (from_yes _ _ _ _ hl).mono ?_; rintro e w' ⟨rfl, rfl⟩)
      go_ret2
      exact ⟨by rw [HF.out.1, HF.out.2]; rfl, Below.refl _ _⟩
    · have HDG : Hid (DigTo s s.size → DecOk s) := fun h => ⟨⟨by omega, by omega⟩, hz, h⟩
      have hcase : (decide ((1 : Int) < (s.size : Int)) = true ∧ ((s[0].toNat : Int) == 48) = false) ∨ decide ((1 : Int) < (s.size : Int)) = false := by
        by_cases h1 : 1 < s.size
        · have h2 : ¬ bAt s 0 = 48 := fun h2 => hz ⟨h1, h2⟩
          rw [bAt_eq hp0] at h2
          exact .inl ⟨by simp; omega, by simp only [beq_eq_false_iff_ne, ne_eq]; omega⟩
        · exact .inr (by simp; omega)
      have hb : s[0].toNat < 256 := UInt8.toNat_lt _
      clear hz
      go_enter Tryz.func155, Tryz.ntmps155
      rcases hcase with ⟨hd, h48⟩ | hd
      all_goals
        go_wp2_with (go_at_call 109; refine (from_yes _ _ _ _ hl).mono ?_; rintro e w' ⟨rfl, rfl⟩)
        go_loopw [4] (fun v wr => ∃ pos : Nat, pos ≤ s.size ∧ v = .int .i64 (numTo s pos) ∧ Hid (DigTo s pos) ∧ wr.heap[w.heap.size]? = some (.stringIter s pos) ∧ Below w.heap.size w wr) (fun _ wr => s.size - wr.iterPos w.heap.size)
        case atStart => exact ⟨0, Nat.zero_le _, rfl, fun j hj => by omega, World.iter_heap w s 0, (Below.refl _ _).alloc (Nat.le_refl _) _⟩
        case round =>
          obtain ⟨pos, hpos, rfl, hdg, hit, hbel⟩ := hrel
          have hnb := numTo_small hdg.out (by omega)
          by_cases hp : pos < s.size
          · by_cases ha : s[pos].toNat < 128
            · have hnx := fun ty => Lib.run_next_ascii_at (P := Tryz.prog) wr w.heap.size s pos ty hit hp ha
              have hA := itd_after (p := pos + 1) hit hbel
              have hM := itd_meas hit hp (show pos < pos + 1 by omega)
              have hnum : numTo s (pos + 1) = 10 * numTo s pos + ((s[pos].toNat : Int) - 48) := by rw [← bAt_eq hp]; rfl
              have HBAD : Hid (¬ (48 ≤ s[pos].toNat ∧ s[pos].toNat ≤ 57) → ¬ DecOk s) := fun h1 h2 => h1 (by rw [← bAt_eq hp]; exact h2.2.2 pos hp)
              have HGOOD : Hid ((48 ≤ s[pos].toNat ∧ s[pos].toNat ≤ 57) → DigTo s (pos + 1)) := fun h1 => hdg.out.next (by rw [bAt_eq hp]; exact h1)
              clear hdg HDG hbel hit
              by_cases h1 : (s[pos].toNat : Int) < 48
              · have HF := decZ_no (HBAD.out (by omega))
                clear HBAD HGOOD hnum
                go_wp2
                go_ret2
                exact ⟨by rw [HF.out.1, HF.out.2]; rfl, hA.2⟩
              · by_cases h2 : 57 < (s[pos].toNat : Int)
                · have HF := decZ_no (HBAD.out (by omega))
                  clear HBAD HGOOD hnum
                  go_wp2
                  go_ret2
                  exact ⟨by rw [HF.out.1, HF.out.2]; rfl, hA.2⟩
                · have HN : Hid (DigTo s (pos + 1)) := HGOOD.out ⟨by omega, by omega⟩
                  have HE : Hid (numTo s (pos + 1) = 10 * numTo s pos + ((s[pos].toNat : Int) - 48)) := hnum
                  clear HBAD HGOOD hnum
                  generalize numTo s pos = nv at *
                  go_wp2
                  go_roundw
                  case rel => exact ⟨pos + 1, by omega, by rw [HE.out], HN, hA.1, hA.2⟩
                  case measure => exact hM
            · have hnx := fun ty => Lib.run_next_any_at (P := Tryz.prog) wr w.heap.size s pos ty hit hp
              have hhi := (decode_high s pos hp (by omega)).1
              obtain ⟨r, hr⟩ : ∃ r, r = (Utf8.decode s pos).1 := ⟨_, rfl⟩
              obtain ⟨p2, hp2⟩ : ∃ p, p = pos + (Utf8.decode s pos).2 := ⟨_, rfl⟩
              rw [← hr, ← hp2] at hnx
              rw [← hr] at hhi
              have hA := itd_after (p := p2) hit hbel
              have HF := decZ_no (s := s) (fun h2 => by
                have := h2.2.2 pos hp
                rw [bAt_eq hp] at this
                omega)
              have h1 : ¬ (r : Int) < 48 := by omega
              have h2 : 57 < (r : Int) := by omega
              clear hdg HDG hbel hit hr hp2 ha
              go_wp2
              go_ret2
              exact ⟨by rw [HF.out.1, HF.out.2]; rfl, hA.2⟩
          · have hnx := fun ty => Lib.run_next_end_at (P := Tryz.prog) wr w.heap.size s pos ty hit hp
            have hpe : pos = s.size := by omega
            subst hpe
            have HF := decZ_yes (HDG.out hdg.out)
            clear hdg HDG
            generalize numTo s s.size = nv at *
            go_wp2
            go_ret2
            exact ⟨by rw [HF.out.1, HF.out.2]; rfl, hbel⟩
  · have HF := decZ_no (s := s) (fun h => hl ⟨by have := h.1.1; omega, by have := h.1.2; omega⟩)
    go_enter Tryz.func155, Tryz.ntmps155
    go_wp2_with (go_at_call 109; refine (from_no _ _ _ _ hl).mono ?_; rintro e w' ⟨rfl, rfl⟩)
    go_ret2
    exact ⟨by rw [HF.out.1, HF.out.2]; rfl, Below.refl _ _⟩

end Go.Proofs.YtgnjkpmbppmoeaaGreat
