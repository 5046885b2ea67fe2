/- DERIVED. spec.l12Cut, spec.l12Number: their walks. -/
import Derived.Test.YtgnjkpmbppmoeaaGreatGPw
import Derived.Test.YtgnjkpmbppmoeaaGreatNs0
import Derived.Test.YtgnjkpmbppmoeaaGreatGXa
import Derived.Test.YtgnjkpmbppmoeaaGreatTx0
import Derived.Maps.AppendAt
namespace Go.Proofs.YtgnjkpmbppmoeaaGreat
open Go.RowKit
set_option linter.unusedSimpArgs false
set_option linter.unusedVariables false

theorem empty_ownS (w : World) (e : TypeId) (B : Nat) (hB : B ≤ w.heap.size) : (w.alloc (.cells #[] e)).ownsRow B e 1 (.slice (some ⟨w.heap.size, 0, none⟩) 0 0) 0 [] :=
  World.ownsRow_made w #[] 0 hB (Nat.zero_le _) rfl

set_option maxRecDepth 100000 in
set_option maxHeartbeats 2000000 in
theorem sCut (s : ByteArray) (w : World) (hs : s.size ≤ 1048576) :
    Calls Tryz.prog 59 #[.string s, .int .u8 32] w fun e w' => ∃ ao cap, e = .returned (.slice ao (wordsP s).length cap) ∧ TxtAt w' ao (wordsP s) ∧ Below w.heap.size w w' := by
  obtain ⟨i0, hi, hz0, hz1, hz2⟩ := info_parts Tryz.infoStr
  go_enter Tryz.func59, Tryz.ntmps59
  go_wp2
  go_loopw [5, 6, 7] (fun v u i wr => ∃ (k : Nat) (ws : List ByteArray) (fr : Nat) (ao : Option Addr) (cap : Nat), k ≤ s.size ∧ i = .int .i64 k ∧ v = .slice ao ws.length cap ∧ u = .int .i64 fr ∧ Hid (cutTo s k = (ws, fr)) ∧
      wr.ownsRow w.heap.size 9 1 (.slice ao ws.length cap) ws.length (strB ws) ∧ Below w.heap.size w wr) (fun _ _ i _ => s.size - (intOf i).toNat)
  case atStart => exact ⟨0, [], 0, _, _, Nat.zero_le _, rfl, rfl, rfl, rfl, empty_ownS _ _ _ (Nat.le_refl _), (Below.refl _ _).alloc (Nat.le_refl _) _⟩
  case round =>
    obtain ⟨k, ws, fr, ao, cap, hk, rfl, rfl, rfl, hcut, hown, hbel⟩ := hrel
    have hle := cutTo_le' hcut.out
    have hfr := hle.1
    have hwl := hle.2
    have hsz := hbel.size
    clear hle
    by_cases hp : k < s.size
    · have hb : s[k].toNat < 256 := UInt8.toNat_lt _
      by_cases hc : bAt s k = 32
      · have HC : Hid (cutTo s (k + 1) = (ws ++ [s.extract fr k], k + 1)) := cutTo_hit hcut.out hc
        have hc1 : ((s[k].toNat : Int) == 32) = true := by rw [← bAt_eq hp, hc]; rfl
        clear hcut hc
        generalize hX : s.extract fr k = x at *
        go_wp2_with (at_builtin; refine wpList_append_own _ rfl _ _ 32 rfl w.heap.size 9 i0 (.string ByteArray.empty) 1 16 Tryz.underlying32 hi hz0 hz1 hz2 rfl (by decide) _ _ _ rfl (hown.alloc _) ⟨wr.heap.size, 0, none⟩ 1 1 [.string x] rfl rfl ?c1 ?c2 ?c3 ?c4 ?c5 ?_)
        case c1 =>
          intro j u hj
          match j, hj with
          | 0, hj => simp at hj; subst hj; simp [Addr.add]
        case c2 => intro u hu; simp at hu; subst hu; rfl
        case c3 => unfold maxLen; omega
        case c4 => omega
        case c5 => simp; omega
        intro v' w1 hown' hgrow _
        obtain ⟨g, cap', rfl⟩ := owns_pos hown'
        have hB : Below w.heap.size w w1 := (hbel.alloc hsz _).grown hgrow (by simp; omega) (own_ge hown)
        have hO : w1.ownsRow w.heap.size 9 1 (.slice (some ⟨g, 0, none⟩) (ws ++ [x]).length cap') (ws ++ [x]).length (strB (ws ++ [x])) := by rw [strB_snoc]; simpa using hown'
        clear hgrow hown' hown hbel
        go_wp2
        go_roundw
        case rel => exact ⟨k + 1, ws ++ [x], k + 1, _, _, by omega, by go_num, by simp, by go_num, HC, hO, hB⟩
        case measure => simp [intOf]; omega
      · have HC : Hid (cutTo s (k + 1) = (ws, fr)) := (cutTo_miss hc).trans hcut.out
        have hc1 : ((s[k].toNat : Int) == 32) = false := by
          rw [bAt_eq hp] at hc
          simp only [beq_eq_false_iff_ne, ne_eq]; omega
        clear hcut hc
        go_wp2
        go_roundw
        case rel => exact ⟨k + 1, ws, fr, _, _, by omega, by go_num, rfl, rfl, HC, hown, hbel⟩
        case measure => simp [intOf]; omega
    · have hpe : k = s.size := by omega
      subst hpe
      have HW : Hid (wordsP s = ws ++ [s.extract fr s.size]) := wordsP_of hcut.out
      clear hcut
      generalize hX : s.extract fr s.size = x at *
      go_wp2_with (at_builtin; refine wpList_append_own _ rfl _ _ 32 rfl w.heap.size 9 i0 (.string ByteArray.empty) 1 16 Tryz.underlying32 hi hz0 hz1 hz2 rfl (by decide) _ _ _ rfl (hown.alloc _) ⟨wr.heap.size, 0, none⟩ 1 1 [.string x] rfl rfl ?c1 ?c2 ?c3 ?c4 ?c5 ?_)
      case c1 =>
        intro j u hj
        match j, hj with
        | 0, hj => simp at hj; subst hj; simp [Addr.add]
      case c2 => intro u hu; simp at hu; subst hu; rfl
      case c3 => unfold maxLen; omega
      case c4 => omega
      case c5 => simp; omega
      intro v' w1 hown' hgrow _
      obtain ⟨g, cap', rfl⟩ := owns_pos hown'
      have hb1 : Below w.heap.size w w1 := (hbel.alloc hbel.size _).grown hgrow (by simp; omega) (own_ge hown)
      have hO : w1.ownsRow w.heap.size 9 1 (.slice (some ⟨g, 0, none⟩) (ws ++ [x]).length cap') (ws ++ [x]).length (strB (ws ++ [x])) := by rw [strB_snoc]; simpa using hown'
      have hT := txt_of_owns rfl hO
      clear hgrow hown' hown hO
      go_wp2
      go_ret
      exact ⟨some ⟨g, 0, none⟩, cap', by rw [HW.out]; simp, by rw [HW.out]; exact hT, hb1⟩

/-- The number of a word that is a decimal, -1 of others. -/
noncomputable def decM (s : ByteArray) : Int := if pb (DecOk s) then decN s else -1
theorem decM_no {s : ByteArray} (h : ¬ DecOk s) : Hid (decM s = -1) := by show _ = _; unfold decM; rw [pb_no h]; rfl
theorem decM_yes {s : ByteArray} (h : DecOk s) : Hid (decM s = numTo s s.size) := by show _ = _; unfold decM; rw [pb_yes h]; rfl
theorem decM_bound (s : ByteArray) : -1 ≤ decM s ∧ decM s ≤ 9999999 := by
  by_cases h : DecOk s
  · have := decN_small h
    rw [(decM_yes h).out]
    unfold decN at this
    omega
  · rw [(decM_no h).out]; omega

set_option maxRecDepth 100000 in
set_option maxHeartbeats 2000000 in
theorem sNum (s : ByteArray) (w : World) (hs : s.size ≤ maxLen) :
    Calls Tryz.prog 61 #[.string s] w fun e w' => e = .returned (.int .i64 (decM s)) ∧ w' = w := by
  unfold maxLen at hs
  by_cases hl : InR (s.size : Int) 1 7
  · have hl1 := hl.1
    have hl2 := hl.2
    have hp0 : 0 < s.size := by omega
    have hb0 : s[0].toNat < 256 := UInt8.toNat_lt _
    by_cases hz : 1 < s.size ∧ bAt s 0 = 48
    · have HF := decM_no (s := s) (fun h => h.2.1 hz)
      obtain ⟨hz1, hz2⟩ := hz
      have hd : decide ((1 : Int) < (s.size : Int)) = true := by simp; omega
      have h48 : ((s[0].toNat : Int) == 48) = true := by rw [← bAt_eq hp0, hz2]; rfl
      clear hz2
      go_enter Tryz.func61, Tryz.ntmps61
      go_wp2_with (go_at_call 81; refine (s11in_yes _ _ _ _ hl).mono ?_; rintro e w' ⟨rfl, rfl⟩)
      go_ret
      exact ⟨by rw [HF.out]; rfl, rfl⟩
    · have HDG : Hid (DigTo s s.size → DecOk s) := fun h => ⟨⟨by omega, by omega⟩, hz, h⟩
      have hcase : (decide ((1 : Int) < (s.size : Int)) = true ∧ ((s[0].toNat : Int) == 48) = false) ∨ decide ((1 : Int) < (s.size : Int)) = false := by
        by_cases h1 : 1 < s.size
        · have h2 : ¬ bAt s 0 = 48 := fun h2 => hz ⟨h1, h2⟩
          rw [bAt_eq hp0] at h2
          exact .inl ⟨by simp; omega, by simp only [beq_eq_false_iff_ne, ne_eq]; omega⟩
        · exact .inr (by simp; omega)
      clear hz
      go_enter Tryz.func61, Tryz.ntmps61
      rcases hcase with ⟨hd, h48⟩ | hd
      all_goals
        go_wp2_with (go_at_call 81; refine (s11in_yes _ _ _ _ hl).mono ?_; rintro e w' ⟨rfl, rfl⟩)
        go_loop [3, 4] (fun v i => ∃ k : Nat, k ≤ s.size ∧ i = .int .i64 k ∧ v = .int .i64 (numTo s k) ∧ Hid (DigTo s k)) (fun _ i => s.size - (intOf i).toNat)
        case atStart => exact ⟨0, Nat.zero_le _, rfl, rfl, fun j hj => by omega⟩
        case round =>
          obtain ⟨k, hk, rfl, rfl, hdg⟩ := hrel
          have hnb := numTo_small hdg.out (by omega)
          by_cases hp : k < s.size
          · have hb : s[k].toNat < 256 := UInt8.toNat_lt _
            have hnum : numTo s (k + 1) = 10 * numTo s k + ((s[k].toNat : Int) - 48) := by rw [← bAt_eq hp]; rfl
            have HBAD : Hid (¬ (48 ≤ s[k].toNat ∧ s[k].toNat ≤ 57) → ¬ DecOk s) := fun h1 h2 => h1 (by rw [← bAt_eq hp]; exact h2.2.2 k hp)
            have HGOOD : Hid ((48 ≤ s[k].toNat ∧ s[k].toNat ≤ 57) → DigTo s (k + 1)) := fun h1 => hdg.out.next (by rw [bAt_eq hp]; exact h1)
            clear hdg HDG
            by_cases h1 : (s[k].toNat : Int) < 48
            · have HF := decM_no (HBAD.out (by omega))
              clear HBAD HGOOD hnum
              go_wp2
              go_ret
              exact ⟨by rw [HF.out]; rfl, rfl⟩
            · by_cases h2 : 57 < (s[k].toNat : Int)
              · have HF := decM_no (HBAD.out (by omega))
                clear HBAD HGOOD hnum
                go_wp2
                go_ret
                exact ⟨by rw [HF.out]; rfl, rfl⟩
              · have HN : Hid (DigTo s (k + 1)) := HGOOD.out ⟨by omega, by omega⟩
                have HE : Hid (numTo s (k + 1) = 10 * numTo s k + ((s[k].toNat : Int) - 48)) := hnum
                clear HBAD HGOOD hnum
                generalize numTo s k = nv at *
                go_wp2
                go_round
                case rel => exact ⟨k + 1, by omega, by go_num, by rw [HE.out]; go_num, HN⟩
                case measure => simp [intOf]; omega
          · have hpe : k = s.size := by omega
            subst hpe
            have HF := decM_yes (HDG.out hdg.out)
            clear hdg HDG
            generalize numTo s s.size = nv at *
            go_wp2
            go_ret
            exact ⟨by rw [HF.out]; rfl, rfl⟩
  · have HF := decM_no (s := s) (fun h => hl ⟨by have := h.1.1; omega, by have := h.1.2; omega⟩)
    go_enter Tryz.func61, Tryz.ntmps61
    go_wp2_with (go_at_call 81; refine (s11in_no _ _ _ _ hl).mono ?_; rintro e w' ⟨rfl, rfl⟩)
    go_ret
    exact ⟨by rw [HF.out]; rfl, rfl⟩

end Go.Proofs.YtgnjkpmbppmoeaaGreat
