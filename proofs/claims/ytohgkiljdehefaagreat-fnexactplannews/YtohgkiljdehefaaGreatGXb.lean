/- DERIVED. What a row that a call made keeps. -/
import Derived.Test.YtohgkiljdehefaaGreatVw1
import Derived.Test.YtohgkiljdehefaaGreatRows
import Derived.Test.YtohgkiljdehefaaGreatPwD
import Derived.Test.YtohgkiljdehefaaGreatNs0
import Derived.Test.YtohgkiljdehefaaGreatGXa
import Derived.Maps.AppendAt
namespace Go.Proofs.YtohgkiljdehefaaGreat
open Go.RowKit
set_option linter.unusedSimpArgs false
set_option linter.unusedVariables false

theorem owns_pos {w : World} {base : Nat} {e : TypeId} {size : Nat} {v : Value} {n : Nat} {xs : List Value} (h : w.ownsRow base e size v (n + 1) xs) : ∃ g cap, v = .slice (some ⟨g, 0, none⟩) (n + 1) cap := by
  rcases h.2 with ⟨_, h0⟩ | ⟨g, cap, cur, hv, _⟩
  · omega
  · exact ⟨g, cap, hv⟩
theorem own_ge {w : World} {base : Nat} {e : TypeId} {size : Nat} {v : Value} {n : Nat} {xs : List Value} (h : w.ownsRow base e size v n xs) : ∀ k, v.ownBlock = some k → base ≤ k := fun k hk => (h.lt k hk).1
theorem owns_kept {w w' : World} {base : Nat} {e : TypeId} {size : Nat} {v : Value} {n : Nat} {xs : List Value} (h : w.ownsRow base e size v n xs) (hb : ∀ g, base ≤ g → g < w.heap.size → w'.heap[g]? = w.heap[g]?) : w'.ownsRow base e size v n xs := by
  refine ⟨h.1, ?_⟩
  rcases h.2 with hn | ⟨g, cap, cur, hv, hg, hh, r⟩
  · exact .inl hn
  · exact .inr ⟨g, cap, cur, hv, hg, by rw [hb g hg (Array.getElem?_eq_some_iff.1 hh).1]; exact hh, r⟩
theorem owns_below {w w' : World} {base : Nat} {e : TypeId} {size : Nat} {v : Value} {n : Nat} {xs : List Value} (h : w.ownsRow base e size v n xs) (hb : Below w.heap.size w w') : w'.ownsRow base e size v n xs := owns_kept h fun g _ hg => hb.block g hg

end Go.Proofs.YtohgkiljdehefaaGreat

/- DERIVED. A slice of texts that a call made. -/
namespace Go.Proofs.YtohgkiljdehefaaGreat
open Go.RowKit
set_option linter.unusedSimpArgs false
set_option linter.unusedVariables false

theorem Tryz.infoStr : (Tryz.prog.info? 9).map (fun i => (i.zero, i.size, i.bytes)) = some (some (.string ByteArray.empty), 1, 16) := by kernel_rfl

def strB (ws : List ByteArray) : List Value := ws.map Value.string
theorem strB_len (ws : List ByteArray) : (strB ws).length = ws.length := by simp [strB]
theorem strB_snoc (ws : List ByteArray) (l : ByteArray) : strB (ws ++ [l]) = strB ws ++ [.string l] := by simp [strB]
theorem strB_app (a b : List ByteArray) : strB (a ++ b) = strB a ++ strB b := by simp [strB]

/-- Where a slice's elements are the texts ws, from cell 0 of its block on. -/
def TxtAt (w : World) (ao : Option Addr) (ws : List ByteArray) : Prop :=
  ws = [] ∨ ∃ g, ao = some ⟨g, 0, none⟩ ∧ g < w.heap.size ∧ ∀ i (h : i < ws.length), w.cell? ⟨g, i, none⟩ = some (.string (ws[i]'h))
theorem TxtAt.kept {w w' : World} {ao : Option Addr} {ws : List ByteArray} (h : TxtAt w ao ws) (hb : ∀ g, ao = some ⟨g, 0, none⟩ → g < w.heap.size → w'.heap[g]? = w.heap[g]?) (hs : w.heap.size ≤ w'.heap.size) : TxtAt w' ao ws := by
  rcases h with h0 | ⟨g, h1, h2, h3⟩
  · exact .inl h0
  · exact .inr ⟨g, h1, by omega, fun i hi => (World.cell?_of_block (a := ⟨g, i, none⟩) (hb g h1 h2)).trans (h3 i hi)⟩
theorem TxtAt.later {w w' : World} {ao : Option Addr} {ws : List ByteArray} (h : TxtAt w ao ws) (hb : Below w.heap.size w w') : TxtAt w' ao ws := h.kept (fun g _ hg => hb.block g hg) hb.size
theorem txt_of_owns {w : World} {B : Nat} {ao : Option Addr} {n cap : Nat} {ws : List ByteArray} (hn : n = ws.length) (h : w.ownsRow B 9 1 (.slice ao n cap) n (strB ws)) : TxtAt w ao ws := by
  by_cases he : ws = []
  · exact .inl he
  · right
    have hpos : 0 < n := by rw [hn]; exact List.length_pos_iff.2 he
    rcases h.2 with ⟨_, h0⟩ | ⟨g, c, cur, hv, hg, hh, hn2, hc, hsz, ht⟩
    · omega
    · cases hv
      refine ⟨g, rfl, (Array.getElem?_eq_some_iff.1 hh).1, fun i hi => ?_⟩
      have e1 : cur.toList[i]? = (strB ws)[i]? := by
        rw [← ht, List.getElem?_take, if_pos (by omega)]
      have e2 : (strB ws)[i]? = some (.string (ws[i]'hi)) := by simp [strB, hi]
      rw [e2] at e1
      simp only [World.cell?, hh]
      simpa using e1

end Go.Proofs.YtohgkiljdehefaaGreat

/- DERIVED. A slice of texts, wherever it begins in its block. -/
namespace Go.Proofs.YtohgkiljdehefaaGreat
open Go.RowKit
set_option linter.unusedSimpArgs false
set_option linter.unusedVariables false

def TxO (w : World) (ao : Option Addr) (ws : List ByteArray) : Prop :=
  ws = [] ∨ ∃ g off, ao = some ⟨g, off, none⟩ ∧ g < w.heap.size ∧ ∀ i (h : i < ws.length), w.cell? ⟨g, off + i, none⟩ = some (.string (ws[i]'h))
theorem TxO.kept {w w' : World} {ao : Option Addr} {ws : List ByteArray} (h : TxO w ao ws) (hb : ∀ g, g < w.heap.size → w'.heap[g]? = w.heap[g]?) (hs : w.heap.size ≤ w'.heap.size) : TxO w' ao ws := by
  rcases h with h0 | ⟨g, off, h1, h2, h3⟩
  · exact .inl h0
  · exact .inr ⟨g, off, h1, by omega, fun i hi => (World.cell?_of_block (a := ⟨g, off + i, none⟩) (hb g h2)).trans (h3 i hi)⟩
theorem TxO.later {w w' : World} {ao : Option Addr} {ws : List ByteArray} (h : TxO w ao ws) (hb : Below w.heap.size w w') : TxO w' ao ws := h.kept (fun g hg => hb.block g hg) hb.size
theorem TxO.of_txt {w : World} {ao : Option Addr} {ws : List ByteArray} (h : TxtAt w ao ws) : TxO w ao ws := by
  rcases h with h0 | ⟨g, h1, h2, h3⟩
  · exact .inl h0
  · exact .inr ⟨g, 0, h1, h2, fun i hi => by rw [Nat.zero_add]; exact h3 i hi⟩
theorem TxO.of_slice {w : World} {ao : Option Addr} {cap : Nat} {ws : List ByteArray} (h : SliceAt vStr (old w) w ao cap ws) : TxO w ao ws := by
  rcases h.2.2 with h0 | ⟨b, off, h1, h2, h3⟩
  · exact .inl h0
  · refine .inr ⟨b, off, h1, h2, fun i hi => ?_⟩
    obtain ⟨c, ⟨hc, _⟩, hj⟩ := h3 i hi
    have := hj 0 (by decide)
    rw [hc] at this
    have e : vStr.size = 1 := rfl
    rw [e] at this
    simpa using this
theorem TxO.at {w : World} {ao : Option Addr} {ws : List ByteArray} (h : TxO w ao ws) {i : Nat} (hi : i < ws.length) : ∃ g off, ao = some ⟨g, off, none⟩ ∧ g < w.heap.size ∧ ∀ j (hj : j < ws.length), w.cell? ⟨g, off + j, none⟩ = some (.string (ws[j]'hj)) := by
  rcases h with h | ⟨g, off, h1, h2, h3⟩
  · subst h; simp at hi
  · exact ⟨g, off, h1, h2, h3⟩

end Go.Proofs.YtohgkiljdehefaaGreat

/- DERIVED. spec.l12Cut, spec.l12Number: their walks. -/
namespace Go.Proofs.YtohgkiljdehefaaGreat
open Go.RowKit
set_option linter.unusedSimpArgs false
set_option linter.unusedVariables false

theorem empty_ownS (w : World) (e : TypeId) (B : Nat) (hB : B ≤ w.heap.size) : (w.alloc (.cells #[] e)).ownsRow B e 1 (.slice (some ⟨w.heap.size, 0, none⟩) 0 0) 0 [] :=
  World.ownsRow_made w #[] 0 hB (Nat.zero_le _) rfl

set_option maxRecDepth 100000 in
set_option maxHeartbeats 2000000 in
theorem sCut (s : ByteArray) (w : World) (hs : s.size ≤ 1048576) :
    Calls Tryz.prog 85 #[.string s, .int .u8 32] w fun e w' => ∃ ao cap, e = .returned (.slice ao (wordsP s).length cap) ∧ TxtAt w' ao (wordsP s) ∧ Below w.heap.size w w' := by
  obtain ⟨i0, hi, hz0, hz1, hz2⟩ := info_parts Tryz.infoStr
  go_enter Tryz.func85, Tryz.ntmps85
  go_wp2
  go_loopw [5, 6, 7] (fun v u i wr => ∃ (k : Nat) (ws : List ByteArray) (fr : Nat) (ao : Option Addr) (cap : Nat), k ≤ s.size ∧ i = .int .i64 k ∧ v = .slice ao ws.length cap ∧ u = .int .i64 fr ∧ Hid (cutTo s k = (ws, fr)) ∧
      wr.ownsRow w.heap.size 9 1 (.slice ao ws.length cap) ws.length (strB ws) ∧ Below w.heap.size w wr) (fun _ _ i _ => s.size - (intOf i).toNat)
  case atStart => exact ⟨0, [], 0, _, _, Nat.zero_le _, rfl, rfl, rfl, rfl, empty_ownS _ _ _ (Nat.le_refl _), (Below.refl _ _).alloc (Nat.le_refl _) _⟩
  case round =>
    obtain ⟨k, ws, fr, ao, cap, hk, rfl, rfl, rfl, hcut, hown, hbel⟩ := hrel
    have hle := cutTo_le' hcut.out
    have hfr := hle.1
    have hwl := hle.2
    have hsz := hbel.size
    clear hle
    by_cases hp : k < s.size
    · have hb : s[k].toNat < 256 := UInt8.toNat_lt _
      by_cases hc : bAt s k = 32
      · have HC : Hid (cutTo s (k + 1) = (ws ++ [s.extract fr k], k + 1)) := cutTo_hit hcut.out hc
        have hc1 : ((s[k].toNat : Int) == 32) = true := by rw [← bAt_eq hp, hc]; rfl
        clear hcut hc
        generalize hX : s.extract fr k = x at *
        go_wp2_with (at_builtin; refine wpList_append_own _ rfl _ _ 139 rfl w.heap.size 9 i0 (.string ByteArray.empty) 1 16 Tryz.underlying139 hi hz0 hz1 hz2 rfl (by decide) _ _ _ rfl (hown.alloc _) ⟨wr.heap.size, 0, none⟩ 1 1 [.string x] rfl rfl ?c1 ?c2 ?c3 ?c4 ?c5 ?_)
        case c1 =>
          intro j u hj
          match j, hj with
          | 0, hj => simp at hj; subst hj; simp [Addr.add]
        case c2 => intro u hu; simp at hu; subst hu; rfl
        case c3 => unfold maxLen; omega
        case c4 => omega
        case c5 => simp; omega
        intro v' w1 hown' hgrow _
        obtain ⟨g, cap', rfl⟩ := owns_pos hown'
        have hB : Below w.heap.size w w1 := (hbel.alloc hsz _).grown hgrow (by simp; omega) (own_ge hown)
        have hO : w1.ownsRow w.heap.size 9 1 (.slice (some ⟨g, 0, none⟩) (ws ++ [x]).length cap') (ws ++ [x]).length (strB (ws ++ [x])) := by rw [strB_snoc]; simpa using hown'
        clear hgrow hown' hown hbel
        go_wp2
        go_roundw
        case rel => exact ⟨k + 1, ws ++ [x], k + 1, _, _, by omega, by go_num, by simp, by go_num, HC, hO, hB⟩
        case measure => simp [intOf]; omega
      · have HC : Hid (cutTo s (k + 1) = (ws, fr)) := (cutTo_miss hc).trans hcut.out
        have hc1 : ((s[k].toNat : Int) == 32) = false := by
          rw [bAt_eq hp] at hc
          simp only [beq_eq_false_iff_ne, ne_eq]; omega
        clear hcut hc
        go_wp2
        go_roundw
        case rel => exact ⟨k + 1, ws, fr, _, _, by omega, by go_num, rfl, rfl, HC, hown, hbel⟩
        case measure => simp [intOf]; omega
    · have hpe : k = s.size := by omega
      subst hpe
      have HW : Hid (wordsP s = ws ++ [s.extract fr s.size]) := wordsP_of hcut.out
      clear hcut
      generalize hX : s.extract fr s.size = x at *
      go_wp2_with (at_builtin; refine wpList_append_own _ rfl _ _ 139 rfl w.heap.size 9 i0 (.string ByteArray.empty) 1 16 Tryz.underlying139 hi hz0 hz1 hz2 rfl (by decide) _ _ _ rfl (hown.alloc _) ⟨wr.heap.size, 0, none⟩ 1 1 [.string x] rfl rfl ?c1 ?c2 ?c3 ?c4 ?c5 ?_)
      case c1 =>
        intro j u hj
        match j, hj with
        | 0, hj => simp at hj; subst hj; simp [Addr.add]
      case c2 => intro u hu; simp at hu; subst hu; rfl
      case c3 => unfold maxLen; omega
      case c4 => omega
      case c5 => simp; omega
      intro v' w1 hown' hgrow _
      obtain ⟨g, cap', rfl⟩ := owns_pos hown'
      have hb1 : Below w.heap.size w w1 := (hbel.alloc hbel.size _).grown hgrow (by simp; omega) (own_ge hown)
      have hO : w1.ownsRow w.heap.size 9 1 (.slice (some ⟨g, 0, none⟩) (ws ++ [x]).length cap') (ws ++ [x]).length (strB (ws ++ [x])) := by rw [strB_snoc]; simpa using hown'
      have hT := txt_of_owns rfl hO
      clear hgrow hown' hown hO
      go_wp2
      go_ret
      exact ⟨some ⟨g, 0, none⟩, cap', by rw [HW.out]; simp, by rw [HW.out]; exact hT, hb1⟩

/-- The number of a word that is a decimal, -1 of others. -/
noncomputable def decM (s : ByteArray) : Int := if pb (DecOk s) then decN s else -1
theorem decM_no {s : ByteArray} (h : ¬ DecOk s) : Hid (decM s = -1) := by show _ = _; unfold decM; rw [pb_no h]; rfl
theorem decM_yes {s : ByteArray} (h : DecOk s) : Hid (decM s = numTo s s.size) := by show _ = _; unfold decM; rw [pb_yes h]; rfl
theorem decM_bound (s : ByteArray) : -1 ≤ decM s ∧ decM s ≤ 9999999 := by
  by_cases h : DecOk s
  · have := decN_small h
    rw [(decM_yes h).out]
    unfold decN at this
    omega
  · rw [(decM_no h).out]; omega

set_option maxRecDepth 100000 in
set_option maxHeartbeats 2000000 in
theorem sNum (s : ByteArray) (w : World) (hs : s.size ≤ maxLen) :
    Calls Tryz.prog 88 #[.string s] w fun e w' => e = .returned (.int .i64 (decM s)) ∧ w' = w := by
  unfold maxLen at hs
  by_cases hl : InR (s.size : Int) 1 7
  · have hl1 := hl.1
    have hl2 := hl.2
    have hp0 : 0 < s.size := by omega
    have hb0 : s[0].toNat < 256 := UInt8.toNat_lt _
    by_cases hz : 1 < s.size ∧ bAt s 0 = 48
    · have HF := decM_no (s := s) (fun h => h.2.1 hz)
      obtain ⟨hz1, hz2⟩ := hz
      have hd : decide ((1 : Int) < (s.size : Int)) = true := by simp; omega
      have h48 : ((s[0].toNat : Int) == 48) = true := by rw [← bAt_eq hp0, hz2]; rfl
      clear hz2
      go_enter Tryz.func88, Tryz.ntmps88
      go_wp2_with (go_at_call 77; refine (s11in_yes _ _ _ _ hl).mono ?_; rintro e w' ⟨rfl, rfl⟩)
      go_ret
      exact ⟨by rw [HF.out]; rfl, rfl⟩
    · have HDG : Hid (DigTo s s.size → DecOk s) := fun h => ⟨⟨by omega, by omega⟩, hz, h⟩
      have hcase : (decide ((1 : Int) < (s.size : Int)) = true ∧ ((s[0].toNat : Int) == 48) = false) ∨ decide ((1 : Int) < (s.size : Int)) = false := by
        by_cases h1 : 1 < s.size
        · have h2 : ¬ bAt s 0 = 48 := fun h2 => hz ⟨h1, h2⟩
          rw [bAt_eq hp0] at h2
          exact .inl ⟨by simp; omega, by simp only [beq_eq_false_iff_ne, ne_eq]; omega⟩
        · exact .inr (by simp; omega)
      clear hz
      go_enter Tryz.func88, Tryz.ntmps88
      rcases hcase with ⟨hd, h48⟩ | hd
      all_goals
        go_wp2_with (go_at_call 77; refine (s11in_yes _ _ _ _ hl).mono ?_; rintro e w' ⟨rfl, rfl⟩)
        go_loop [3, 4] (fun v i => ∃ k : Nat, k ≤ s.size ∧ i = .int .i64 k ∧ v = .int .i64 (numTo s k) ∧ Hid (DigTo s k)) (fun _ i => s.size - (intOf i).toNat)
        case atStart => exact ⟨0, Nat.zero_le _, rfl, rfl, fun j hj => by omega⟩
        case round =>
          obtain ⟨k, hk, rfl, rfl, hdg⟩ := hrel
          have hnb := numTo_small hdg.out (by omega)
          by_cases hp : k < s.size
          · have hb : s[k].toNat < 256 := UInt8.toNat_lt _
            have hnum : numTo s (k + 1) = 10 * numTo s k + ((s[k].toNat : Int) - 48) := by rw [← bAt_eq hp]; rfl
            have HBAD : Hid (¬ (48 ≤ s[k].toNat ∧ s[k].toNat ≤ 57) → ¬ DecOk s) := fun h1 h2 => h1 (by rw [← bAt_eq hp]; exact h2.2.2 k hp)
            have HGOOD : Hid ((48 ≤ s[k].toNat ∧ s[k].toNat ≤ 57) → DigTo s (k + 1)) := fun h1 => hdg.out.next (by rw [bAt_eq hp]; exact h1)
            clear hdg HDG
            by_cases h1 : (s[k].toNat : Int) < 48
            · have HF := decM_no (HBAD.out (by omega))
              clear HBAD HGOOD hnum
              go_wp2
              go_ret
              exact ⟨by rw [HF.out]; rfl, rfl⟩
            · by_cases h2 : 57 < (s[k].toNat : Int)
              · have HF := decM_no (HBAD.out (by omega))
                clear HBAD HGOOD hnum
                go_wp2
                go_ret
                exact ⟨by rw [HF.out]; rfl, rfl⟩
              · have HN : Hid (DigTo s (k + 1)) := HGOOD.out ⟨by omega, by omega⟩
                have HE : Hid (numTo s (k + 1) = 10 * numTo s k + ((s[k].toNat : Int) - 48)) := hnum
                clear HBAD HGOOD hnum
                generalize numTo s k = nv at *
                go_wp2
                go_round
                case rel => exact ⟨k + 1, by omega, by go_num, by rw [HE.out]; go_num, HN⟩
                case measure => simp [intOf]; omega
          · have hpe : k = s.size := by omega
            subst hpe
            have HF := decM_yes (HDG.out hdg.out)
            clear hdg HDG
            generalize numTo s s.size = nv at *
            go_wp2
            go_ret
            exact ⟨by rw [HF.out]; rfl, rfl⟩
  · have HF := decM_no (s := s) (fun h => hl ⟨by have := h.1.1; omega, by have := h.1.2; omega⟩)
    go_enter Tryz.func88, Tryz.ntmps88
    go_wp2_with (go_at_call 77; refine (s11in_no _ _ _ _ hl).mono ?_; rintro e w' ⟨rfl, rfl⟩)
    go_ret
    exact ⟨by rw [HF.out]; rfl, rfl⟩

end Go.Proofs.YtohgkiljdehefaaGreat
