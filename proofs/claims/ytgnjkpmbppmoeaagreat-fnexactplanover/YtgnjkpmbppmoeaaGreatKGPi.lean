/- DERIVED. impl.planWords: its walk. -/
import Derived.Test.YtgnjkpmbppmoeaaGreatKGPw
import Derived.Lib.OthersKept
import Derived.Maps.AppendAt
import Derived.Test.YtgnjkpmbppmoeaaGreatKGNm
import Derived.Test.YtgnjkpmbppmoeaaGreatKGXa
namespace Go.Proofs.YtgnjkpmbppmoeaaGreat
open Go.RowKit
set_option linter.unusedSimpArgs false
set_option linter.unusedVariables false

theorem own_lo1 {W : World} {b : Nat} {e : TypeId} {size k : Nat} {v : Value} {xs : List Value} (h : W.ownsRow (b + 1) e size v k xs) : W.ownsRow b e size v k xs := by
  refine ⟨h.1, ?_⟩
  rcases h.2 with h1 | ⟨g, cap, cur, h1, h2, h3⟩
  · exact .inl h1
  · exact .inr ⟨g, cap, cur, h1, Nat.le_of_succ_le h2, h3⟩
theorem itw_after {w wr w2 : World} {s : ByteArray} {pos p : Nat} (hit : wr.heap[w.heap.size]? = some (.stringIter s pos)) (hbel : Below w.heap.size w wr) (h2 : Below (w.heap.size + 1) (wr.iterAt w.heap.size s p) w2) :
    w2.heap[w.heap.size]? = some (.stringIter s p) ∧ Below w.heap.size w w2 :=
  ⟨(h2.block _ (by omega)).trans (Lib.iterAt_heap _ _ _ _ _ hit), (Lib.below_iterAt hbel (Nat.le_refl _) s p).trans (h2.mono (by omega))⟩
theorem itw_size {w wr : World} {s : ByteArray} {pos : Nat} (hit : wr.heap[w.heap.size]? = some (.stringIter s pos)) : w.heap.size + 1 ≤ wr.heap.size := by
  have := (Array.getElem?_eq_some_iff.1 hit).1; omega
theorem itw_meas {wr w2 : World} {b : Nat} {s : ByteArray} {pos p : Nat} (h1 : wr.heap[b]? = some (.stringIter s pos)) (h2 : w2.heap[b]? = some (.stringIter s p)) (hp : pos < s.size) (hq : pos < p) : s.size - w2.iterPos b < s.size - wr.iterPos b := by
  rw [iterPos_of h1, iterPos_of h2]; omega

set_option maxRecDepth 100000 in
set_option maxHeartbeats 2000000 in
theorem iWordsO (s : ByteArray) (w : World) (hs : s.size ≤ 1048576) :
    Calls Tryz.prog 154 #[.string s] w fun e w' => ∃ ao cap, e = .returned (.slice ao (wordsP s).length cap) ∧ w'.ownsRow w.heap.size 9 1 (.slice ao (wordsP s).length cap) (wordsP s).length (strB (wordsP s)) ∧ Below w.heap.size w w' := by
  obtain ⟨i0, hi, hz0, hz1, hz2⟩ := info_parts Tryz.infoStr
  go_enter Tryz.func154, Tryz.ntmps154
  go_wp2
  go_loopw [3, 4] (fun v u wr => ∃ (pos : Nat) (ws : List ByteArray) (fr : Nat) (ao : Option Addr) (cap : Nat), pos ≤ s.size ∧ v = .slice ao ws.length cap ∧ u = .int .i64 fr ∧ Hid (cutTo s pos = (ws, fr)) ∧
      wr.heap[w.heap.size]? = some (.stringIter s pos) ∧ wr.ownsRow (w.heap.size + 1) 9 1 (.slice ao ws.length cap) ws.length (strB ws) ∧ Below w.heap.size w wr) (fun _ _ wr => s.size - wr.iterPos w.heap.size)
  case atStart => exact ⟨0, [], 0, none, 0, Nat.zero_le _, rfl, rfl, rfl, World.iter_heap w s 0, World.ownsRow_nil _ _ _ _, (Below.refl _ _).alloc (Nat.le_refl _) _⟩
  case round =>
    obtain ⟨pos, ws, fr, ao, cap, hpos, rfl, rfl, hcut, hit, hown, hbel⟩ := hrel
    have hle := cutTo_le' hcut.out
    have hfr := hle.1
    have hwl := hle.2
    clear hle
    have hsz := itw_size hit
    by_cases hp : pos < s.size
    · by_cases ha : s[pos].toNat < 128
      · have hnx := fun ty => Lib.run_next_ascii_at (P := Tryz.prog) wr w.heap.size s pos ty hit hp ha
        have hown1 := ownsRow_iterAt hown (k := w.heap.size) (by omega) s (pos + 1)
        have hz1' : (wr.iterAt w.heap.size s (pos + 1)).heap.size = wr.heap.size := Lib.iterAt_size _ _ _ _
        by_cases hc : bAt s pos = 32
        · have HC : Hid (cutTo s (pos + 1) = (ws ++ [s.extract fr pos], pos + 1)) := cutTo_hit hcut.out hc
          have hc1 : ((s[pos].toNat : Int) == 32) = true := by rw [← bAt_eq hp, hc]; rfl
          have hA0 : ∀ w2 : World, Below (w.heap.size + 1) (wr.iterAt w.heap.size s (pos + 1)) w2 → _ := fun w2 h2 => itw_after hit hbel h2
          have HA0 : Hid (∀ w2 : World, Below (w.heap.size + 1) (wr.iterAt w.heap.size s (pos + 1)) w2 → w2.heap[w.heap.size]? = some (.stringIter s (pos + 1)) ∧ Below w.heap.size w w2) := hA0
          have HM : Hid (∀ w2 : World, w2.heap[w.heap.size]? = some (.stringIter s (pos + 1)) → s.size - w2.iterPos w.heap.size < s.size - wr.iterPos w.heap.size) := fun w2 h2 => itw_meas hit h2 hp (by omega)
          clear hcut hc hA0
          generalize hX : s.extract fr pos = x at *
          clear hit hown hbel ha
          go_wp2_with (at_builtin; refine wpList_append_own _ rfl _ _ 32 rfl (w.heap.size + 1) 9 i0 (.string ByteArray.empty) 1 16 Tryz.underlying32 hi hz0 hz1 hz2 rfl (by decide) _ _ _ rfl (hown1.alloc _) ⟨wr.heap.size, 0, none⟩ 1 1 [.string x] rfl rfl ?c1 ?c2 ?c3 ?c4 ?c5 ?_)
          case c1 =>
            intro j u hj
            match j, hj with
            | 0, hj => simp at hj; subst hj; simp [Addr.add]; rw [← hz1']; simp
          case c2 => intro u hu; simp at hu; subst hu; rfl
          case c3 => unfold maxLen; omega
          case c4 => omega
          case c5 => simp; omega
          intro v' w1 hown' hgrow _
          obtain ⟨g, cap', rfl⟩ := owns_pos hown'
          have hb1 : Below (w.heap.size + 1) (wr.iterAt w.heap.size s (pos + 1)) w1 := ((Below.refl _ _).alloc (by rw [hz1']; omega) _).grown hgrow (by simp; omega) (own_ge hown1)
          have hA := HA0.out w1 hb1
          have hO : w1.ownsRow (w.heap.size + 1) 9 1 (.slice (some ⟨g, 0, none⟩) (ws ++ [x]).length cap') (ws ++ [x]).length (strB (ws ++ [x])) := by rw [strB_snoc]; simpa using hown'
          have hM := HM.out w1 hA.1
          clear hgrow hown' hown1 hb1 HA0 HM
          go_wp2
          go_roundw
          case rel => exact ⟨pos + 1, ws ++ [x], pos + 1, _, _, by omega, by simp, by go_num, HC, hA.1, hO, hA.2⟩
          case measure => exact hM
        · have HC : Hid (cutTo s (pos + 1) = (ws, fr)) := (cutTo_miss hc).trans hcut.out
          have hc1 : ((s[pos].toNat : Int) == 32) = false := by
            rw [bAt_eq hp] at hc
            simp only [beq_eq_false_iff_ne, ne_eq]; omega
          have hA := itw_after hit hbel (Below.refl _ (wr.iterAt w.heap.size s (pos + 1)))
          have hM := itw_meas hit hA.1 hp (by omega)
          clear hcut hc hown hbel ha
          go_wp2
          go_roundw
          case rel => exact ⟨pos + 1, ws, fr, _, _, by omega, rfl, rfl, HC, hA.1, hown1, hA.2⟩
          case measure => exact hM
      · have hnx := fun ty => Lib.run_next_any_at (P := Tryz.prog) wr w.heap.size s pos ty hit hp
        have hhi := (decode_high s pos hp (by omega)).1
        have hst := words_step hp (by omega)
        have HC : Hid (cutTo s (pos + (Utf8.decode s pos).2) = (ws, fr)) := hst.1.trans hcut.out
        obtain ⟨r, hr⟩ : ∃ r, r = (Utf8.decode s pos).1 := ⟨_, rfl⟩
        obtain ⟨p2, hp2⟩ : ∃ p, p = pos + (Utf8.decode s pos).2 := ⟨_, rfl⟩
        have hp3 : pos < p2 ∧ p2 ≤ s.size := by rw [hp2]; have := hst.2; omega
        rw [← hr, ← hp2] at hnx
        rw [← hr] at hhi
        rw [← hp2] at HC
        have hown1 := ownsRow_iterAt hown (k := w.heap.size) (by omega) s p2
        have hA := itw_after hit hbel (Below.refl _ (wr.iterAt w.heap.size s p2))
        have hM := itw_meas hit hA.1 hp hp3.1
        have hc1 : ((r : Int) == 32) = false := by simp; omega
        clear hcut hown hbel ha hr hp2 hhi hst
        go_wp2
        go_roundw
        case rel => exact ⟨p2, ws, fr, _, _, hp3.2, rfl, rfl, HC, hA.1, hown1, hA.2⟩
        case measure => exact hM
    · have hnx := fun ty => Lib.run_next_end_at (P := Tryz.prog) wr w.heap.size s pos ty hit hp
      have hpe : pos = s.size := by omega
      subst hpe
      have HW : Hid (wordsP s = ws ++ [s.extract fr s.size]) := wordsP_of hcut.out
      clear hcut
      generalize hX : s.extract fr s.size = x at *
      clear hit
      go_wp2_with (at_builtin; refine wpList_append_own _ rfl _ _ 32 rfl (w.heap.size + 1) 9 i0 (.string ByteArray.empty) 1 16 Tryz.underlying32 hi hz0 hz1 hz2 rfl (by decide) _ _ _ rfl (hown.alloc _) ⟨wr.heap.size, 0, none⟩ 1 1 [.string x] rfl rfl ?c1 ?c2 ?c3 ?c4 ?c5 ?_)
      case c1 =>
        intro j u hj
        match j, hj with
        | 0, hj => simp at hj; subst hj; simp [Addr.add]
      case c2 => intro u hu; simp at hu; subst hu; rfl
      case c3 => unfold maxLen; omega
      case c4 => omega
      case c5 => simp; omega
      intro v' w1 hown' hgrow _
      obtain ⟨g, cap', rfl⟩ := owns_pos hown'
      have hb1 : Below w.heap.size w w1 := (hbel.alloc hbel.size _).grown hgrow (by simp; omega) (fun j hj => by have := own_ge hown j hj; omega)
      have hO : w1.ownsRow (w.heap.size + 1) 9 1 (.slice (some ⟨g, 0, none⟩) (ws ++ [x]).length cap') (ws ++ [x]).length (strB (ws ++ [x])) := by rw [strB_snoc]; simpa using hown'
      have hT : w1.ownsRow w.heap.size 9 1 (.slice (some ⟨g, 0, none⟩) (wordsP s).length cap') (wordsP s).length (strB (wordsP s)) := by
        rw [HW.out]
        exact own_lo1 hO
      have HT : Hid _ := hT
      clear hgrow hown' hown hO hT
      go_wp2
      go_ret
      exact ⟨some ⟨g, 0, none⟩, cap', by rw [HW.out]; simp, HT.out, hb1⟩

theorem iWords (s : ByteArray) (w : World) (hs : s.size ≤ 1048576) :
    Calls Tryz.prog 154 #[.string s] w fun e w' => ∃ ao cap, e = .returned (.slice ao (wordsP s).length cap) ∧ TxtAt w' ao (wordsP s) ∧ Below w.heap.size w w' :=
  (iWordsO s w hs).mono fun e w' ⟨ao, cap, h1, h2, h3⟩ => ⟨ao, cap, h1, txt_of_owns rfl h2, h3⟩

end Go.Proofs.YtgnjkpmbppmoeaaGreat

/- DERIVED. impl.planDecimal: its walk. -/
namespace Go.Proofs.YtgnjkpmbppmoeaaGreat
open Go.RowKit
set_option linter.unusedSimpArgs false
set_option linter.unusedVariables false

/-- The number of a word that is a decimal, 0 of others. -/
noncomputable def decZ (s : ByteArray) : Int := if pb (DecOk s) then decN s else 0

theorem itd_after {w wr : World} {s : ByteArray} {pos p : Nat} (hit : wr.heap[w.heap.size]? = some (.stringIter s pos)) (hbel : Below w.heap.size w wr) :
    (wr.iterAt w.heap.size s p).heap[w.heap.size]? = some (.stringIter s p) ∧ Below w.heap.size w (wr.iterAt w.heap.size s p) :=
  ⟨Lib.iterAt_heap _ _ _ _ _ hit, Lib.below_iterAt hbel (Nat.le_refl _) s p⟩
theorem itd_meas {wr : World} {b : Nat} {s : ByteArray} {pos p : Nat} (h1 : wr.heap[b]? = some (.stringIter s pos)) (hp : pos < s.size) (hq : pos < p) : s.size - (wr.iterAt b s p).iterPos b < s.size - wr.iterPos b := by
  rw [iterPos_of h1, iterPos_of (Lib.iterAt_heap _ _ _ _ _ h1)]; omega

theorem decZ_no {s : ByteArray} (h : ¬ DecOk s) : Hid (pb (DecOk s) = false ∧ decZ s = 0) := ⟨pb_no h, by unfold decZ; rw [pb_no h]; rfl⟩
theorem decZ_yes {s : ByteArray} (h : DecOk s) : Hid (pb (DecOk s) = true ∧ decZ s = numTo s s.size) := ⟨pb_yes h, by unfold decZ; rw [pb_yes h]; rfl⟩

set_option maxRecDepth 100000 in
set_option maxHeartbeats 2000000 in
theorem iDec (s : ByteArray) (w : World) (hs : s.size ≤ maxLen) :
    Calls Tryz.prog 155 #[.string s] w fun e w' => e = .returned (.tuple #[.int .i64 (decZ s), .bool (pb (DecOk s))]) ∧ Below w.heap.size w w' := by
  unfold maxLen at hs
  by_cases hl : InR (s.size : Int) 1 7
  · have hl1 := hl.1
    have hl2 := hl.2
    have hp0 : 0 < s.size := by omega
    by_cases hz : 1 < s.size ∧ bAt s 0 = 48
    · have HF := decZ_no (s := s) (fun h => h.2.1 hz)
      obtain ⟨hz1, hz2⟩ := hz
      have hd : decide ((1 : Int) < (s.size : Int)) = true := by simp; omega
      have h48 : ((s[0].toNat : Int) == 48) = true := by rw [← bAt_eq hp0, hz2]; rfl
      have hb : s[0].toNat < 256 := UInt8.toNat_lt _
      clear hz2
      go_enter Tryz.func155, Tryz.ntmps155
      go_wp2_with (go_at_call 109; refine (from_yes _ _ _ _ hl).mono ?_; rintro e w' ⟨rfl, rfl⟩)
      go_ret2
      exact ⟨by rw [HF.out.1, HF.out.2]; rfl, Below.refl _ _⟩
    · have HDG : Hid (DigTo s s.size → DecOk s) := fun h => ⟨⟨by omega, by omega⟩, hz, h⟩
      have hcase : (decide ((1 : Int) < (s.size : Int)) = true ∧ ((s[0].toNat : Int) == 48) = false) ∨ decide ((1 : Int) < (s.size : Int)) = false := by
        by_cases h1 : 1 < s.size
        · have h2 : ¬ bAt s 0 = 48 := fun h2 => hz ⟨h1, h2⟩
          rw [bAt_eq hp0] at h2
          exact .inl ⟨by simp; omega, by simp only [beq_eq_false_iff_ne, ne_eq]; omega⟩
        · exact .inr (by simp; omega)
      have hb : s[0].toNat < 256 := UInt8.toNat_lt _
      clear hz
      go_enter Tryz.func155, Tryz.ntmps155
      rcases hcase with ⟨hd, h48⟩ | hd
      all_goals
        go_wp2_with (go_at_call 109; refine (from_yes _ _ _ _ hl).mono ?_; rintro e w' ⟨rfl, rfl⟩)
        go_loopw [4] (fun v wr => ∃ pos : Nat, pos ≤ s.size ∧ v = .int .i64 (numTo s pos) ∧ Hid (DigTo s pos) ∧ wr.heap[w.heap.size]? = some (.stringIter s pos) ∧ Below w.heap.size w wr) (fun _ wr => s.size - wr.iterPos w.heap.size)
        case atStart => exact ⟨0, Nat.zero_le _, rfl, fun j hj => by omega, World.iter_heap w s 0, (Below.refl _ _).alloc (Nat.le_refl _) _⟩
        case round =>
          obtain ⟨pos, hpos, rfl, hdg, hit, hbel⟩ := hrel
          have hnb := numTo_small hdg.out (by omega)
          by_cases hp : pos < s.size
          · by_cases ha : s[pos].toNat < 128
            · have hnx := fun ty => Lib.run_next_ascii_at (P := Tryz.prog) wr w.heap.size s pos ty hit hp ha
              have hA := itd_after (p := pos + 1) hit hbel
              have hM := itd_meas hit hp (show pos < pos + 1 by omega)
              have hnum : numTo s (pos + 1) = 10 * numTo s pos + ((s[pos].toNat : Int) - 48) := by rw [← bAt_eq hp]; rfl
              have HBAD : Hid (¬ (48 ≤ s[pos].toNat ∧ s[pos].toNat ≤ 57) → ¬ DecOk s) := fun h1 h2 => h1 (by rw [← bAt_eq hp]; exact h2.2.2 pos hp)
              have HGOOD : Hid ((48 ≤ s[pos].toNat ∧ s[pos].toNat ≤ 57) → DigTo s (pos + 1)) := fun h1 => hdg.out.next (by rw [bAt_eq hp]; exact h1)
              clear hdg HDG hbel hit
              by_cases h1 : (s[pos].toNat : Int) < 48
              · have HF := decZ_no (HBAD.out (by omega))
                clear HBAD HGOOD hnum
                go_wp2
                go_ret2
                exact ⟨by rw [HF.out.1, HF.out.2]; rfl, hA.2⟩
              · by_cases h2 : 57 < (s[pos].toNat : Int)
                · have HF := decZ_no (HBAD.out (by omega))
                  clear HBAD HGOOD hnum
                  go_wp2
                  go_ret2
                  exact ⟨by rw [HF.out.1, HF.out.2]; rfl, hA.2⟩
                · have HN : Hid (DigTo s (pos + 1)) := HGOOD.out ⟨by omega, by omega⟩
                  have HE : Hid (numTo s (pos + 1) = 10 * numTo s pos + ((s[pos].toNat : Int) - 48)) := hnum
                  clear HBAD HGOOD hnum
                  generalize numTo s pos = nv at *
                  go_wp2
                  go_roundw
                  case rel => exact ⟨pos + 1, by omega, by rw [HE.out], HN, hA.1, hA.2⟩
                  case measure => exact hM
            · have hnx := fun ty => Lib.run_next_any_at (P := Tryz.prog) wr w.heap.size s pos ty hit hp
              have hhi := (decode_high s pos hp (by omega)).1
              obtain ⟨r, hr⟩ : ∃ r, r = (Utf8.decode s pos).1 := ⟨_, rfl⟩
              obtain ⟨p2, hp2⟩ : ∃ p, p = pos + (Utf8.decode s pos).2 := ⟨_, rfl⟩
              rw [← hr, ← hp2] at hnx
              rw [← hr] at hhi
              have hA := itd_after (p := p2) hit hbel
              have HF := decZ_no (s := s) (fun h2 => by
                have := h2.2.2 pos hp
                rw [bAt_eq hp] at this
                omega)
              have h1 : ¬ (r : Int) < 48 := by omega
              have h2 : 57 < (r : Int) := by omega
              clear hdg HDG hbel hit hr hp2 ha
              go_wp2
              go_ret2
              exact ⟨by rw [HF.out.1, HF.out.2]; rfl, hA.2⟩
          · have hnx := fun ty => Lib.run_next_end_at (P := Tryz.prog) wr w.heap.size s pos ty hit hp
            have hpe : pos = s.size := by omega
            subst hpe
            have HF := decZ_yes (HDG.out hdg.out)
            clear hdg HDG
            generalize numTo s s.size = nv at *
            go_wp2
            go_ret2
            exact ⟨by rw [HF.out.1, HF.out.2]; rfl, hbel⟩
  · have HF := decZ_no (s := s) (fun h => hl ⟨by have := h.1.1; omega, by have := h.1.2; omega⟩)
    go_enter Tryz.func155, Tryz.ntmps155
    go_wp2_with (go_at_call 109; refine (from_no _ _ _ _ hl).mono ?_; rintro e w' ⟨rfl, rfl⟩)
    go_ret2
    exact ⟨by rw [HF.out.1, HF.out.2]; rfl, Below.refl _ _⟩

end Go.Proofs.YtgnjkpmbppmoeaaGreat
