/- DERIVED. spec.l11Kind, spec.l11Point: their walks (written by wip/tools/mk_pfs.py). -/
import Derived.Test.YtgnjkpmbppmoeaaGreatKGPw
import Derived.Test.YtgnjkpmbppmoeaaGreatKPlS1
import Derived.Test.YtgnjkpmbppmoeaaGreatKGPj
import Derived.Test.YtgnjkpmbppmoeaaGreatKGNs
import Derived.Test.YtgnjkpmbppmoeaaGreatKGXa
import Derived.Maps.AppendAt
import Derived.Test.YtgnjkpmbppmoeaaGreatKGFd
import Derived.Test.YtgnjkpmbppmoeaaGreatKWq0
namespace Go.Proofs.YtgnjkpmbppmoeaaGreat
open Go.RowKit
set_option linter.unusedSimpArgs false
set_option linter.unusedVariables false

/-- The first of the first k with this name, -1 if there is none. -/
noncomputable def idxTo {α : Type} (nm : α → ByteArray) (l : List α) (v : ByteArray) : Nat → Int
  | 0 => -1
  | k + 1 => if 0 ≤ idxTo nm l v k then idxTo nm l v k else if pb (∃ h : k < l.length, nm (l[k]'h) = v) then (k : Int) else -1
noncomputable def idxOf {α : Type} (nm : α → ByteArray) (l : List α) (v : ByteArray) : Int := idxTo nm l v l.length
theorem idxTo_none {α : Type} {nm : α → ByteArray} {l : List α} {v : ByteArray} {k : Nat} (h : NoNm nm l v k) : idxTo nm l v k = -1 := by
  induction k with
  | zero => rfl
  | succ k ih =>
    have h1 := ih (fun i hi hk => h i hi (by omega))
    show (if 0 ≤ idxTo nm l v k then _ else _) = _
    rw [h1, if_neg (by omega), pb_no (fun ⟨hk, e⟩ => h k hk (by omega) e)]
    rfl
theorem idxTo_hit {α : Type} {nm : α → ByteArray} {l : List α} {v : ByteArray} {k : Nat} (h : NoNm nm l v k) (hk : k < l.length) (he : nm (l[k]'hk) = v) (m : Nat) : idxTo nm l v (k + 1 + m) = k := by
  induction m with
  | zero =>
    show (if 0 ≤ idxTo nm l v k then _ else _) = _
    rw [idxTo_none h, if_neg (by omega), pb_yes ⟨hk, he⟩]
    rfl
  | succ m ih =>
    show (if 0 ≤ idxTo nm l v (k + 1 + m) then _ else _) = _
    rw [if_pos (by rw [ih]; omega)]
    exact ih
theorem idxOf_hit {α : Type} {nm : α → ByteArray} {l : List α} {v : ByteArray} {k : Nat} (h : NoNm nm l v k) (hk : k < l.length) (he : nm (l[k]'hk) = v) : idxOf nm l v = k := by
  have := idxTo_hit h hk he (l.length - (k + 1))
  rwa [show k + 1 + (l.length - (k + 1)) = l.length by omega] at this
theorem idxOf_none {α : Type} {nm : α → ByteArray} {l : List α} {v : ByteArray} (h : NoNm nm l v l.length) : idxOf nm l v = -1 := idxTo_none h
theorem idxTo_cases {α : Type} (nm : α → ByteArray) (l : List α) (v : ByteArray) (k : Nat) (hk : k ≤ l.length) : NoNm nm l v k ∨ ∃ j, ∃ h : j < l.length, NoNm nm l v j ∧ nm (l[j]'h) = v := by
  induction k with
  | zero => exact .inl (fun i _ h => by omega)
  | succ k ih =>
    rcases ih (by omega) with h | h
    · by_cases he : nm (l[k]'(by omega)) = v
      · exact .inr ⟨k, by omega, h, he⟩
      · exact .inl (h.next _ he)
    · exact .inr h
theorem idxOf_has {α : Type} (nm : α → ByteArray) (l : List α) (v : ByteArray) : (HasNm nm l v ↔ 0 ≤ idxOf nm l v) ∧ -1 ≤ idxOf nm l v ∧ idxOf nm l v < l.length + 1 := by
  rcases idxTo_cases nm l v l.length (Nat.le_refl _) with h | ⟨j, hj, h, he⟩
  · rw [idxOf_none h]
    exact ⟨⟨fun h1 => absurd h1 h.all, fun h1 => by omega⟩, by omega, by omega⟩
  · rw [idxOf_hit h hj he]
    exact ⟨⟨fun _ => by omega, fun _ => ⟨j, hj, he⟩⟩, by omega, by omega⟩

set_option maxRecDepth 100000 in
set_option maxHeartbeats 2000000 in
theorem sPlanKind (x : DPlanBase) (ao0 : Option Addr) (cap0 : Nat) (ao1 : Option Addr) (cap1 : Nat) (v : ByteArray) (w : World) (h : BaseAt w x ao0 cap0 ao1 cap1) :
    Calls Tryz.prog 60 #[.agg #[.slice ao0 x.1.length cap0, .slice ao1 x.2.length cap1], .string v] w fun e w' => e = .returned (.int .i64 (idxOf nmK x.1 v)) ∧ Below w.heap.size w w' := by
  obtain ⟨ks, ps⟩ := x
  have hs := h.p0
  simp only at *
  clear h
  have hcm : ks.length ≤ 9223372036854775807 := Nat.le_trans hs.1 hs.2.1
  have hb0 : Below w.heap.size w (w.alloc (.cells #[.slice ao0 ks.length cap0, .slice ao1 ps.length cap1] 40)) := (Below.refl _ _).alloc (Nat.le_refl _) _
  have HB0 := BxC.new w #[.slice ao0 ks.length cap0, .slice ao1 ps.length cap1] 40
  have x0 := HB0 0
  simp at x0
  go_enter Tryz.func60, Tryz.ntmps60
  go_wp2
  go_loop [5] (fun i => ∃ k : Nat, k ≤ ks.length ∧ i = .int .i64 k ∧ Hid (NoNm nmK ks v k)) (fun i => ks.length - (intOf i).toNat)
  case atStart => exact ⟨0, Nat.zero_le _, rfl, fun j _ hj => by omega⟩
  case round =>
    obtain ⟨k, hk, rfl, hpre⟩ := hrel
    by_cases hlt : k < ks.length
    · obtain ⟨b, off, rfl, hok, c0, c1, c2, q0, _⟩ := elem_PlanKind hs hlt
      have f0 := (hb0.cell (p := ⟨b, off + k * 3, none⟩) hok).trans c0
      clear c0 c1 c2
      have hbw : b < w.heap.size := hok
      have hkI : (k : Int) < (ks.length : Int) := by omega
      have HY : Hid ((ks[k]'hlt).1 = v → idxOf nmK ks v = k) := fun e => idxOf_hit hpre.out hlt e
      have HN : Hid (¬ (ks[k]'hlt).1 = v → NoNm nmK ks v (k + 1)) := fun e => hpre.out.next hlt e
      clear hpre q0 hs
      generalize (ks[k]'hlt).1 = n at *
      by_cases hq : n = v
      · have HR : Hid (idxOf nmK ks v = k) := HY.out hq
        have hqb : (n.toList == v.toList) = true := beqL.2 hq
        clear HY HN hq
        go_wp2
        go_ret
        exact ⟨by rw [HR.out]; rfl, hb0⟩
      · have HN1 : Hid (NoNm nmK ks v (k + 1)) := HN.out hq
        have hqb : (n.toList == v.toList) = false := beqL_no hq
        clear HY HN hq
        go_wp2
        go_round
        case rel => exact ⟨k + 1, by omega, by go_num, HN1⟩
        case measure => simp [intOf]; omega
    · have hke : k = ks.length := by omega
      subst hke
      have HR : Hid (idxOf nmK ks v = -1) := idxOf_none hpre.out
      clear hpre
      go_wp2
      go_ret
      exact ⟨by rw [HR.out]; rfl, hb0⟩

set_option maxRecDepth 100000 in
set_option maxHeartbeats 2000000 in
theorem sPlanPoint (x : DPlanBase) (ao0 : Option Addr) (cap0 : Nat) (ao1 : Option Addr) (cap1 : Nat) (v : ByteArray) (w : World) (h : BaseAt w x ao0 cap0 ao1 cap1) :
    Calls Tryz.prog 48 #[.agg #[.slice ao0 x.1.length cap0, .slice ao1 x.2.length cap1], .string v] w fun e w' => e = .returned (.int .i64 (idxOf nmP x.2 v)) ∧ Below w.heap.size w w' := by
  obtain ⟨ks, ps⟩ := x
  have hs := h.p1
  simp only at *
  clear h
  have hcm : ps.length ≤ 9223372036854775807 := Nat.le_trans hs.1 hs.2.1
  have hb0 : Below w.heap.size w (w.alloc (.cells #[.slice ao0 ks.length cap0, .slice ao1 ps.length cap1] 40)) := (Below.refl _ _).alloc (Nat.le_refl _) _
  have HB0 := BxC.new w #[.slice ao0 ks.length cap0, .slice ao1 ps.length cap1] 40
  have x1 := HB0 1
  simp at x1
  go_enter Tryz.func48, Tryz.ntmps48
  go_wp2
  go_loop [5] (fun i => ∃ k : Nat, k ≤ ps.length ∧ i = .int .i64 k ∧ Hid (NoNm nmP ps v k)) (fun i => ps.length - (intOf i).toNat)
  case atStart => exact ⟨0, Nat.zero_le _, rfl, fun j _ hj => by omega⟩
  case round =>
    obtain ⟨k, hk, rfl, hpre⟩ := hrel
    by_cases hlt : k < ps.length
    · obtain ⟨b, off, rfl, hok, c0, c1, c2, q0, _⟩ := elem_PlanPoint hs hlt
      have f0 := (hb0.cell (p := ⟨b, off + k * 3, none⟩) hok).trans c0
      clear c0 c1 c2
      have hbw : b < w.heap.size := hok
      have hkI : (k : Int) < (ps.length : Int) := by omega
      have HY : Hid ((ps[k]'hlt).1 = v → idxOf nmP ps v = k) := fun e => idxOf_hit hpre.out hlt e
      have HN : Hid (¬ (ps[k]'hlt).1 = v → NoNm nmP ps v (k + 1)) := fun e => hpre.out.next hlt e
      clear hpre q0 hs
      generalize (ps[k]'hlt).1 = n at *
      by_cases hq : n = v
      · have HR : Hid (idxOf nmP ps v = k) := HY.out hq
        have hqb : (n.toList == v.toList) = true := beqL.2 hq
        clear HY HN hq
        go_wp2
        go_ret
        exact ⟨by rw [HR.out]; rfl, hb0⟩
      · have HN1 : Hid (NoNm nmP ps v (k + 1)) := HN.out hq
        have hqb : (n.toList == v.toList) = false := beqL_no hq
        clear HY HN hq
        go_wp2
        go_round
        case rel => exact ⟨k + 1, by omega, by go_num, HN1⟩
        case measure => simp [intOf]; omega
    · have hke : k = ps.length := by omega
      subst hke
      have HR : Hid (idxOf nmP ps v = -1) := idxOf_none hpre.out
      clear hpre
      go_wp2
      go_ret
      exact ⟨by rw [HR.out]; rfl, hb0⟩

end Go.Proofs.YtgnjkpmbppmoeaaGreat

/- DERIVED. spec.l12Cut, spec.l12Number: their walks. -/
namespace Go.Proofs.YtgnjkpmbppmoeaaGreat
open Go.RowKit
set_option linter.unusedSimpArgs false
set_option linter.unusedVariables false

theorem empty_ownS (w : World) (e : TypeId) (B : Nat) (hB : B ≤ w.heap.size) : (w.alloc (.cells #[] e)).ownsRow B e 1 (.slice (some ⟨w.heap.size, 0, none⟩) 0 0) 0 [] :=
  World.ownsRow_made w #[] 0 hB (Nat.zero_le _) rfl

set_option maxRecDepth 100000 in
set_option maxHeartbeats 2000000 in
theorem sCut (s : ByteArray) (w : World) (hs : s.size ≤ 1048576) :
    Calls Tryz.prog 59 #[.string s, .int .u8 32] w fun e w' => ∃ ao cap, e = .returned (.slice ao (wordsP s).length cap) ∧ TxtAt w' ao (wordsP s) ∧ Below w.heap.size w w' := by
  obtain ⟨i0, hi, hz0, hz1, hz2⟩ := info_parts Tryz.infoStr
  go_enter Tryz.func59, Tryz.ntmps59
  go_wp2
  go_loopw [5, 6, 7] (fun v u i wr => ∃ (k : Nat) (ws : List ByteArray) (fr : Nat) (ao : Option Addr) (cap : Nat), k ≤ s.size ∧ i = .int .i64 k ∧ v = .slice ao ws.length cap ∧ u = .int .i64 fr ∧ Hid (cutTo s k = (ws, fr)) ∧
      wr.ownsRow w.heap.size 9 1 (.slice ao ws.length cap) ws.length (strB ws) ∧ Below w.heap.size w wr) (fun _ _ i _ => s.size - (intOf i).toNat)
  case atStart => exact ⟨0, [], 0, _, _, Nat.zero_le _, rfl, rfl, rfl, rfl, empty_ownS _ _ _ (Nat.le_refl _), (Below.refl _ _).alloc (Nat.le_refl _) _⟩
  case round =>
    obtain ⟨k, ws, fr, ao, cap, hk, rfl, rfl, rfl, hcut, hown, hbel⟩ := hrel
    have hle := cutTo_le' hcut.out
    have hfr := hle.1
    have hwl := hle.2
    have hsz := hbel.size
    clear hle
    by_cases hp : k < s.size
    · have hb : s[k].toNat < 256 := UInt8.toNat_lt _
      by_cases hc : bAt s k = 32
      · have HC : Hid (cutTo s (k + 1) = (ws ++ [s.extract fr k], k + 1)) := cutTo_hit hcut.out hc
        have hc1 : ((s[k].toNat : Int) == 32) = true := by rw [← bAt_eq hp, hc]; rfl
        clear hcut hc
        generalize hX : s.extract fr k = x at *
        go_wp2_with (at_builtin; refine wpList_append_own _ rfl _ _ 32 rfl w.heap.size 9 i0 (.string ByteArray.empty) 1 16 Tryz.underlying32 hi hz0 hz1 hz2 rfl (by decide) _ _ _ rfl (hown.alloc _) ⟨wr.heap.size, 0, none⟩ 1 1 [.string x] rfl rfl ?c1 ?c2 ?c3 ?c4 ?c5 ?_)
        case c1 =>
          intro j u hj
          match j, hj with
          | 0, hj => simp at hj; subst hj; simp [Addr.add]
        case c2 => intro u hu; simp at hu; subst hu; rfl
        case c3 => unfold maxLen; omega
        case c4 => omega
        case c5 => simp; omega
        intro v' w1 hown' hgrow _
        obtain ⟨g, cap', rfl⟩ := owns_pos hown'
        have hB : Below w.heap.size w w1 := (hbel.alloc hsz _).grown hgrow (by simp; omega) (own_ge hown)
        have hO : w1.ownsRow w.heap.size 9 1 (.slice (some ⟨g, 0, none⟩) (ws ++ [x]).length cap') (ws ++ [x]).length (strB (ws ++ [x])) := by rw [strB_snoc]; simpa using hown'
        clear hgrow hown' hown hbel
        go_wp2
        go_roundw
        case rel => exact ⟨k + 1, ws ++ [x], k + 1, _, _, by omega, by go_num, by simp, by go_num, HC, hO, hB⟩
        case measure => simp [intOf]; omega
      · have HC : Hid (cutTo s (k + 1) = (ws, fr)) := (cutTo_miss hc).trans hcut.out
        have hc1 : ((s[k].toNat : Int) == 32) = false := by
          rw [bAt_eq hp] at hc
          simp only [beq_eq_false_iff_ne, ne_eq]; omega
        clear hcut hc
        go_wp2
        go_roundw
        case rel => exact ⟨k + 1, ws, fr, _, _, by omega, by go_num, rfl, rfl, HC, hown, hbel⟩
        case measure => simp [intOf]; omega
    · have hpe : k = s.size := by omega
      subst hpe
      have HW : Hid (wordsP s = ws ++ [s.extract fr s.size]) := wordsP_of hcut.out
      clear hcut
      generalize hX : s.extract fr s.size = x at *
      go_wp2_with (at_builtin; refine wpList_append_own _ rfl _ _ 32 rfl w.heap.size 9 i0 (.string ByteArray.empty) 1 16 Tryz.underlying32 hi hz0 hz1 hz2 rfl (by decide) _ _ _ rfl (hown.alloc _) ⟨wr.heap.size, 0, none⟩ 1 1 [.string x] rfl rfl ?c1 ?c2 ?c3 ?c4 ?c5 ?_)
      case c1 =>
        intro j u hj
        match j, hj with
        | 0, hj => simp at hj; subst hj; simp [Addr.add]
      case c2 => intro u hu; simp at hu; subst hu; rfl
      case c3 => unfold maxLen; omega
      case c4 => omega
      case c5 => simp; omega
      intro v' w1 hown' hgrow _
      obtain ⟨g, cap', rfl⟩ := owns_pos hown'
      have hb1 : Below w.heap.size w w1 := (hbel.alloc hbel.size _).grown hgrow (by simp; omega) (own_ge hown)
      have hO : w1.ownsRow w.heap.size 9 1 (.slice (some ⟨g, 0, none⟩) (ws ++ [x]).length cap') (ws ++ [x]).length (strB (ws ++ [x])) := by rw [strB_snoc]; simpa using hown'
      have hT := txt_of_owns rfl hO
      clear hgrow hown' hown hO
      go_wp2
      go_ret
      exact ⟨some ⟨g, 0, none⟩, cap', by rw [HW.out]; simp, by rw [HW.out]; exact hT, hb1⟩

/-- The number of a word that is a decimal, -1 of others. -/
noncomputable def decM (s : ByteArray) : Int := if pb (DecOk s) then decN s else -1
theorem decM_no {s : ByteArray} (h : ¬ DecOk s) : Hid (decM s = -1) := by show _ = _; unfold decM; rw [pb_no h]; rfl
theorem decM_yes {s : ByteArray} (h : DecOk s) : Hid (decM s = numTo s s.size) := by show _ = _; unfold decM; rw [pb_yes h]; rfl
theorem decM_bound (s : ByteArray) : -1 ≤ decM s ∧ decM s ≤ 9999999 := by
  by_cases h : DecOk s
  · have := decN_small h
    rw [(decM_yes h).out]
    unfold decN at this
    omega
  · rw [(decM_no h).out]; omega

set_option maxRecDepth 100000 in
set_option maxHeartbeats 2000000 in
theorem sNum (s : ByteArray) (w : World) (hs : s.size ≤ maxLen) :
    Calls Tryz.prog 61 #[.string s] w fun e w' => e = .returned (.int .i64 (decM s)) ∧ w' = w := by
  unfold maxLen at hs
  by_cases hl : InR (s.size : Int) 1 7
  · have hl1 := hl.1
    have hl2 := hl.2
    have hp0 : 0 < s.size := by omega
    have hb0 : s[0].toNat < 256 := UInt8.toNat_lt _
    by_cases hz : 1 < s.size ∧ bAt s 0 = 48
    · have HF := decM_no (s := s) (fun h => h.2.1 hz)
      obtain ⟨hz1, hz2⟩ := hz
      have hd : decide ((1 : Int) < (s.size : Int)) = true := by simp; omega
      have h48 : ((s[0].toNat : Int) == 48) = true := by rw [← bAt_eq hp0, hz2]; rfl
      clear hz2
      go_enter Tryz.func61, Tryz.ntmps61
      go_wp2_with (go_at_call 81; refine (s11in_yes _ _ _ _ hl).mono ?_; rintro e w' ⟨rfl, rfl⟩)
      go_ret
      exact ⟨by rw [HF.out]; rfl, rfl⟩
    · have HDG : Hid (DigTo s s.size → DecOk s) := fun h => ⟨⟨by omega, by omega⟩, hz, h⟩
      have hcase : (decide ((1 : Int) < (s.size : Int)) = true ∧ ((s[0].toNat : Int) == 48) = false) ∨ decide ((1 : Int) < (s.size : Int)) = false := by
        by_cases h1 : 1 < s.size
        · have h2 : ¬ bAt s 0 = 48 := fun h2 => hz ⟨h1, h2⟩
          rw [bAt_eq hp0] at h2
          exact .inl ⟨by simp; omega, by simp only [beq_eq_false_iff_ne, ne_eq]; omega⟩
        · exact .inr (by simp; omega)
      clear hz
      go_enter Tryz.func61, Tryz.ntmps61
      rcases hcase with ⟨hd, h48⟩ | hd
      all_goals
        go_wp2_with (go_at_call 81; refine (s11in_yes _ _ _ _ hl).mono ?_; rintro e w' ⟨rfl, rfl⟩)
        go_loop [3, 4] (fun v i => ∃ k : Nat, k ≤ s.size ∧ i = .int .i64 k ∧ v = .int .i64 (numTo s k) ∧ Hid (DigTo s k)) (fun _ i => s.size - (intOf i).toNat)
        case atStart => exact ⟨0, Nat.zero_le _, rfl, rfl, fun j hj => by omega⟩
        case round =>
          obtain ⟨k, hk, rfl, rfl, hdg⟩ := hrel
          have hnb := numTo_small hdg.out (by omega)
          by_cases hp : k < s.size
          · have hb : s[k].toNat < 256 := UInt8.toNat_lt _
            have hnum : numTo s (k + 1) = 10 * numTo s k + ((s[k].toNat : Int) - 48) := by rw [← bAt_eq hp]; rfl
            have HBAD : Hid (¬ (48 ≤ s[k].toNat ∧ s[k].toNat ≤ 57) → ¬ DecOk s) := fun h1 h2 => h1 (by rw [← bAt_eq hp]; exact h2.2.2 k hp)
            have HGOOD : Hid ((48 ≤ s[k].toNat ∧ s[k].toNat ≤ 57) → DigTo s (k + 1)) := fun h1 => hdg.out.next (by rw [bAt_eq hp]; exact h1)
            clear hdg HDG
            by_cases h1 : (s[k].toNat : Int) < 48
            · have HF := decM_no (HBAD.out (by omega))
              clear HBAD HGOOD hnum
              go_wp2
              go_ret
              exact ⟨by rw [HF.out]; rfl, rfl⟩
            · by_cases h2 : 57 < (s[k].toNat : Int)
              · have HF := decM_no (HBAD.out (by omega))
                clear HBAD HGOOD hnum
                go_wp2
                go_ret
                exact ⟨by rw [HF.out]; rfl, rfl⟩
              · have HN : Hid (DigTo s (k + 1)) := HGOOD.out ⟨by omega, by omega⟩
                have HE : Hid (numTo s (k + 1) = 10 * numTo s k + ((s[k].toNat : Int) - 48)) := hnum
                clear HBAD HGOOD hnum
                generalize numTo s k = nv at *
                go_wp2
                go_round
                case rel => exact ⟨k + 1, by omega, by go_num, by rw [HE.out]; go_num, HN⟩
                case measure => simp [intOf]; omega
          · have hpe : k = s.size := by omega
            subst hpe
            have HF := decM_yes (HDG.out hdg.out)
            clear hdg HDG
            generalize numTo s s.size = nv at *
            go_wp2
            go_ret
            exact ⟨by rw [HF.out]; rfl, rfl⟩
  · have HF := decM_no (s := s) (fun h => hl ⟨by have := h.1.1; omega, by have := h.1.2; omega⟩)
    go_enter Tryz.func61, Tryz.ntmps61
    go_wp2_with (go_at_call 81; refine (s11in_no _ _ _ _ hl).mono ?_; rintro e w' ⟨rfl, rfl⟩)
    go_ret
    exact ⟨by rw [HF.out]; rfl, rfl⟩

end Go.Proofs.YtgnjkpmbppmoeaaGreat

/- DERIVED. spec.l12TimeOk, spec.l12RouteOk: their walks (written by wip/tools/mk_pfs.py). -/
namespace Go.Proofs.YtgnjkpmbppmoeaaGreat
open Go.RowKit Go.Sort
set_option linter.unusedSimpArgs false
set_option linter.unusedVariables false

theorem sNumB (s : ByteArray) (w : World) (hs : s.size ≤ maxLen) :
    Calls Tryz.prog 61 #[.string s] w fun e w' => e = .returned (.int .i64 (decM s)) ∧ Below w.heap.size w w' :=
  (sNum s w hs).mono fun e w' h => ⟨h.1, by rw [h.2]; exact Below.refl _ _⟩
theorem s11in_any (n lo hi : Int) (w : World) :
    Calls Tryz.prog 81 #[.int .i64 n, .int .i64 lo, .int .i64 hi] w fun e w' => e = .returned (.bool (pb (InR n lo hi))) ∧ Below w.heap.size w w' := by
  by_cases h : InR n lo hi
  · exact (s11in_yes n lo hi w h).mono fun e w' h1 => ⟨by rw [h1.1, pb_yes h], by rw [h1.2]; exact Below.refl _ _⟩
  · exact (s11in_no n lo hi w h).mono fun e w' h1 => ⟨by rw [h1.1, pb_no h], by rw [h1.2]; exact Below.refl _ _⟩

theorem decM_pos {s : ByteArray} : DecOk s ↔ 0 ≤ decM s := by
  constructor
  · intro h
    rw [(decM_yes h).out]
    exact (decN_small h).1
  · intro h
    exact Classical.byContradiction fun h1 => by rw [(decM_no h1).out] at h; omega
theorem timeM (a b : ByteArray) : TimeOk [a, b] ↔ 0 ≤ decM a ∧ InR (decM b) (decM a) 10000 := by
  constructor
  · rintro ⟨x, y, h, h1, h2, h3, h4⟩
    simp only [List.cons.injEq, and_true] at h
    obtain ⟨rfl, rfl⟩ := h
    refine ⟨decM_pos.1 h1, ?_⟩
    rw [(decM_yes h1).out, (decM_yes h2).out]
    exact ⟨h3, h4⟩
  · rintro ⟨h1, h2, h3⟩
    have d1 := decM_pos.2 h1
    have d2 : DecOk b := decM_pos.2 (by omega)
    rw [(decM_yes d1).out, (decM_yes d2).out] at h2
    rw [(decM_yes d2).out] at h3
    exact ⟨a, b, rfl, d1, d2, h2, h3⟩

theorem two_ofS {ws : List ByteArray} (h : ws.length = 2) : ∃ a b, ws = [a, b] := by
  match ws, h with
  | [a, b], _ => exact ⟨a, b, rfl⟩

set_option maxRecDepth 100000 in
set_option maxHeartbeats 4000000 in
theorem sTime (ao : Option Addr) (cap : Nat) (ws : List ByteArray) (w : World) (h : TxtAt w ao ws) (hl : ws.length ≤ 1048577) (hsz : ∀ x ∈ ws, x.size ≤ maxLen) :
    Calls Tryz.prog 122 #[.slice ao ws.length cap] w fun e w' => e = .returned (.bool (pb (TimeOk ws))) ∧ Below w.heap.size w w' := by
  by_cases h2 : ws.length = 2
  · obtain ⟨a, b, rfl⟩ := two_ofS h2
    have ha := hsz a (by simp)
    have hb := hsz b (by simp)
    obtain ⟨g, rfl, hg, c0, c1⟩ : ∃ g, ao = some ⟨g, 0, none⟩ ∧ g < w.heap.size ∧ w.cell? ⟨g, 0, none⟩ = some (.string a) ∧ w.cell? ⟨g, 1, none⟩ = some (.string b) := by
      rcases h with h | ⟨g, h1, h2, h3⟩
      · cases h
      · exact ⟨g, h1, h2, h3 0 (by simp), h3 1 (by simp)⟩
    have HE := timeM a b
    simp only [List.length_cons, List.length_nil, Nat.zero_add, Nat.reduceAdd]
    clear h h2 hl hsz
    have cA : ∀ dd os, Calls Tryz.prog 61 #[.string a] (grow (redrawn w dd) os) (fun e w'' => e = .returned (.int .i64 (decM a)) ∧ ∃ p : Regrown, w'' = grow (redrawn w p.d) p.os) := fun dd os => Calls.regrown_of (sNumB a _ ha)
    have cB : ∀ dd os, Calls Tryz.prog 61 #[.string b] (grow (redrawn w dd) os) (fun e w'' => e = .returned (.int .i64 (decM b)) ∧ ∃ p : Regrown, w'' = grow (redrawn w p.d) p.os) := fun dd os => Calls.regrown_of (sNumB b _ hb)
    have cI : ∀ dd os, Calls Tryz.prog 81 #[.int .i64 (decM b), .int .i64 (decM a), .int .i64 10000] (grow (redrawn w dd) os) (fun e w'' => e = .returned (.bool (pb (InR (decM b) (decM a) 10000))) ∧ ∃ p : Regrown, w'' = grow (redrawn w p.d) p.os) := fun dd os => Calls.regrown_of (s11in_any _ _ _ _)
    have g0 := cell_regrown c0
    have g1 := cell_regrown c1
    clear c0 c1 ha hb
    by_cases hp : 0 ≤ decM a
    · have hpd : decide (0 ≤ decM a) = true := by simp [hp]
      have HR : Hid (pb (TimeOk [a, b]) = pb (InR (decM b) (decM a) 10000)) := pb_same ⟨fun h => (HE.1 h).2, fun h => HE.2 ⟨hp, h⟩⟩
      clear HE hp
      generalize pb (InR (decM b) (decM a) 10000) = ri at *
      generalize decM a = na at *
      generalize decM b = nb at *
      go_enter Tryz.func122, Tryz.ntmps122
      go_wp2_with fail
      refine Leg.wp_region_qw (by kernel_rfl) (by kernel_rfl) ?_
      refine Leg.QW.want (by kernel_rfl) (fun K hK => ?_)
      go_big_quiet_op
      refine hK _ ?_
      clear hK K
      refine Leg.QW.want (by kernel_rfl) (fun K hK => ?_)
      go_big_quiet_op
      refine hK _ ?_
      clear hK K
      refine Leg.QW.want (by kernel_rfl) (fun K hK => ?_)
      go_big_quiet_op
      refine hK _ ?_
      clear hK K
      refine Leg.QW.want (by kernel_rfl) (fun K hK => ?_)
      go_big_quiet_op
      refine hK _ ?_
      clear hK K
      refine Leg.QW.want (by kernel_rfl) (fun K hK => ?_)
      go_big_quiet_op
      refine hK _ ?_
      clear hK K
      refine Leg.QW.want (by kernel_rfl) (fun K hK => ?_)
      go_big_quiet_op
      refine hK _ ?_
      clear hK K
      refine Leg.QW.want (by kernel_rfl) (fun K hK => ?_)
      go_big_quiet_op
      refine hK _ ?_
      clear hK K
      refine Leg.QW.want (by kernel_rfl) (fun K hK => ?_)
      go_big_quiet_op
      refine ⟨_, fun _ => cA _ _, hK _ ?_⟩
      clear hK K
      refine Leg.QW.want (by kernel_rfl) (fun K hK => ?_)
      go_big_quiet_op
      refine hK _ ?_
      clear hK K
      refine Leg.QW.want (by kernel_rfl) (fun K hK => ?_)
      go_big_quiet_op
      refine hK _ ?_
      clear hK K
      refine Leg.QW.want (by kernel_rfl) (fun K hK => ?_)
      go_big_quiet_op
      refine hK _ ?_
      clear hK K
      refine Leg.QW.want (by kernel_rfl) (fun K hK => ?_)
      go_big_quiet_op
      refine hK _ ?_
      clear hK K
      refine Leg.QW.want (by kernel_rfl) (fun K hK => ?_)
      go_big_quiet_op
      refine hK _ ?_
      clear hK K
      refine Leg.QW.want (by kernel_rfl) (fun K hK => ?_)
      go_big_quiet_op
      refine hK _ ?_
      clear hK K
      refine Leg.QW.want (by kernel_rfl) (fun K hK => ?_)
      go_big_quiet_op
      refine ⟨_, fun _ => cB _ _, hK _ ?_⟩
      clear hK K
      refine Leg.QW.want (by kernel_rfl) (fun K hK => ?_)
      go_big_quiet_op
      refine hK _ ?_
      clear hK K
      refine Leg.QW.want (by kernel_rfl) (fun K hK => ?_)
      go_big_quiet_op
      refine hK _ ?_
      clear hK K
      refine Leg.QW.want (by kernel_rfl) (fun K hK => ?_)
      go_big_quiet_op
      refine hK _ ?_
      clear hK K
      refine Leg.QW.want (by kernel_rfl) (fun K hK => ?_)
      go_big_quiet_op
      refine ⟨_, fun _ => cA _ _, hK _ ?_⟩
      clear hK K
      refine Leg.QW.want (by kernel_rfl) (fun K hK => ?_)
      go_big_quiet_op
      refine ⟨_, fun _ => cI _ _, hK _ ?_⟩
      clear hK K
      refine Leg.QW.want (by kernel_rfl) (fun K hK => ?_)
      go_big_quiet_op
      refine hK _ ?_
      clear hK K
      refine Leg.QW.want (by kernel_rfl) (fun K hK => ?_)
      go_big_quiet_op
      refine hK _ ?_
      clear hK K
      refine Leg.QW.nil ?_
      intro _ hw'
      obtain ⟨⟨dq, osq⟩, hw''⟩ := hw'
      subst hw''
      have hbq := below_regrown w dq osq
      clear cA cB cI g0 g1
      generalize grow (redrawn w dq) osq = w9 at hbq ⊢
      go_wp2
      go_ret
      exact ⟨by rw [HR.out]; rfl, hbq⟩
    · have hpd : decide (0 ≤ decM a) = false := by simp; omega
      have HR : Hid (pb (TimeOk [a, b]) = false) := pb_no (fun h => hp (HE.1 h).1)
      clear HE hp cB cI
      generalize decM a = na at *
      go_enter Tryz.func122, Tryz.ntmps122
      go_wp2_with fail
      refine Leg.wp_region_qw (by kernel_rfl) (by kernel_rfl) ?_
      refine Leg.QW.want (by kernel_rfl) (fun K hK => ?_)
      go_big_quiet_op
      refine hK _ ?_
      clear hK K
      refine Leg.QW.want (by kernel_rfl) (fun K hK => ?_)
      go_big_quiet_op
      refine hK _ ?_
      clear hK K
      refine Leg.QW.want (by kernel_rfl) (fun K hK => ?_)
      go_big_quiet_op
      refine hK _ ?_
      clear hK K
      refine Leg.QW.want (by kernel_rfl) (fun K hK => ?_)
      go_big_quiet_op
      refine hK _ ?_
      clear hK K
      refine Leg.QW.want (by kernel_rfl) (fun K hK => ?_)
      go_big_quiet_op
      refine hK _ ?_
      clear hK K
      refine Leg.QW.want (by kernel_rfl) (fun K hK => ?_)
      go_big_quiet_op
      refine hK _ ?_
      clear hK K
      refine Leg.QW.want (by kernel_rfl) (fun K hK => ?_)
      go_big_quiet_op
      refine hK _ ?_
      clear hK K
      refine Leg.QW.want (by kernel_rfl) (fun K hK => ?_)
      go_big_quiet_op
      refine ⟨_, fun _ => cA _ _, hK _ ?_⟩
      clear hK K
      refine Leg.QW.want (by kernel_rfl) (fun K hK => ?_)
      go_big_quiet_op
      refine hK _ ?_
      clear hK K
      refine Leg.QW.want (by kernel_rfl) (fun K hK => ?_)
      go_big_quiet_op
      refine hK _ ?_
      clear hK K
      refine Leg.QW.want (by kernel_rfl) (fun K hK => ?_)
      go_big_quiet_op
      refine hK _ ?_
      clear hK K
      refine Leg.QW.skip (by kernel_rfl) ?_
      refine Leg.QW.skip (by kernel_rfl) ?_
      refine Leg.QW.skip (by kernel_rfl) ?_
      refine Leg.QW.skip (by kernel_rfl) ?_
      refine Leg.QW.skip (by kernel_rfl) ?_
      refine Leg.QW.skip (by kernel_rfl) ?_
      refine Leg.QW.skip (by kernel_rfl) ?_
      refine Leg.QW.skip (by kernel_rfl) ?_
      refine Leg.QW.skip (by kernel_rfl) ?_
      refine Leg.QW.want (by kernel_rfl) (fun K hK => ?_)
      go_simp
      refine hK _ ?_
      clear hK K
      refine Leg.QW.want (by kernel_rfl) (fun K hK => ?_)
      go_big_quiet_op
      refine hK _ ?_
      clear hK K
      refine Leg.QW.nil ?_
      intro _ hw'
      obtain ⟨⟨dq, osq⟩, hw''⟩ := hw'
      subst hw''
      have hbq := below_regrown w dq osq
      clear cA g0 g1
      generalize grow (redrawn w dq) osq = w9 at hbq ⊢
      go_wp2
      go_ret
      exact ⟨by rw [HR.out]; rfl, hbq⟩
  · have HR : Hid (pb (TimeOk ws) = false) := pb_no (fun ⟨a, b, h, _⟩ => h2 (by rw [h]; rfl))
    have hlb : ((ws.length : Int) == 2) = false := by simp only [beq_eq_false_iff_ne, ne_eq]; omega
    clear h hsz
    go_enter Tryz.func122, Tryz.ntmps122
    go_wp2_with fail
    refine Leg.wp_region_qw (by kernel_rfl) (by kernel_rfl) ?_
    refine Leg.QW.want (by kernel_rfl) (fun K hK => ?_)
    go_big_quiet_op
    refine hK _ ?_
    clear hK K
    refine Leg.QW.want (by kernel_rfl) (fun K hK => ?_)
    go_big_quiet_op
    refine hK _ ?_
    clear hK K
    refine Leg.QW.want (by kernel_rfl) (fun K hK => ?_)
    go_big_quiet_op
    refine hK _ ?_
    clear hK K
    refine Leg.QW.want (by kernel_rfl) (fun K hK => ?_)
    go_big_quiet_op
    refine hK _ ?_
    clear hK K
    refine Leg.QW.skip (by kernel_rfl) ?_
    refine Leg.QW.skip (by kernel_rfl) ?_
    refine Leg.QW.skip (by kernel_rfl) ?_
    refine Leg.QW.skip (by kernel_rfl) ?_
    refine Leg.QW.skip (by kernel_rfl) ?_
    refine Leg.QW.want (by kernel_rfl) (fun K hK => ?_)
    go_simp
    refine hK _ ?_
    clear hK K
    refine Leg.QW.want (by kernel_rfl) (fun K hK => ?_)
    go_big_quiet_op
    refine hK _ ?_
    clear hK K
    refine Leg.QW.skip (by kernel_rfl) ?_
    refine Leg.QW.skip (by kernel_rfl) ?_
    refine Leg.QW.skip (by kernel_rfl) ?_
    refine Leg.QW.skip (by kernel_rfl) ?_
    refine Leg.QW.skip (by kernel_rfl) ?_
    refine Leg.QW.skip (by kernel_rfl) ?_
    refine Leg.QW.skip (by kernel_rfl) ?_
    refine Leg.QW.skip (by kernel_rfl) ?_
    refine Leg.QW.skip (by kernel_rfl) ?_
    refine Leg.QW.want (by kernel_rfl) (fun K hK => ?_)
    go_simp
    refine hK _ ?_
    clear hK K
    refine Leg.QW.want (by kernel_rfl) (fun K hK => ?_)
    go_big_quiet_op
    refine hK _ ?_
    clear hK K
    refine Leg.QW.nil ?_
    intro _ hw'
    obtain ⟨⟨dq, osq⟩, hw''⟩ := hw'
    subst hw''
    have hbq := below_regrown w dq osq
    generalize grow (redrawn w dq) osq = w9 at hbq ⊢
    go_wp2
    go_ret
    exact ⟨by rw [HR.out]; rfl, hbq⟩

set_option maxRecDepth 100000 in
set_option maxHeartbeats 4000000 in
theorem sRouteO (x : DPlanBase) (ao0 : Option Addr) (cap0 : Nat) (ao1 : Option Addr) (cap1 : Nat) (ao : Option Addr) (cap : Nat) (ws : List ByteArray) (w : World) (hx : BaseAt w x ao0 cap0 ao1 cap1) (h : TxO w ao ws) (hwl : ws.length ≤ 1048577) :
    Calls Tryz.prog 78 #[.agg #[.slice ao0 x.1.length cap0, .slice ao1 x.2.length cap1], .slice ao ws.length cap] w fun e w' => e = .returned (.bool (pb (RouteOk x.2 ws))) ∧ Below w.heap.size w w' := by
  have hb0 : Below w.heap.size w (w.alloc (.cells #[.slice ao0 x.1.length cap0, .slice ao1 x.2.length cap1] 40)) := (Below.refl _ _).alloc (Nat.le_refl _) _
  have HB0 := BxC.new w #[.slice ao0 x.1.length cap0, .slice ao1 x.2.length cap1] 40
  by_cases hr : InR (ws.length : Int) 2 8
  · have hr1 := hr.1
    have hr2 := hr.2
    have HNO : Hid (¬ RouteTo x.2 ws ws.length → pb (RouteOk x.2 ws) = false) := fun h1 => pb_no (fun h2 => h1 h2.2)
    have HYES : Hid (RouteTo x.2 ws ws.length → pb (RouteOk x.2 ws) = true) := fun h1 => pb_yes ⟨hr, h1⟩
    go_enter Tryz.func78, Tryz.ntmps78
    go_wp2_with (go_at_call 81; refine (s11in_yes _ _ _ _ hr).mono ?_; rintro e w' ⟨rfl, hwq⟩; subst hwq)
    go_loopw [5] (fun i wr => ∃ k : Nat, k ≤ ws.length ∧ i = .int .i64 k ∧ Hid (RouteTo x.2 ws k) ∧ Below (w.alloc (.cells #[.slice ao0 x.1.length cap0, .slice ao1 x.2.length cap1] 40)).heap.size (w.alloc (.cells #[.slice ao0 x.1.length cap0, .slice ao1 x.2.length cap1] 40)) wr) (fun i _ => ws.length - (intOf i).toNat)
    case atStart => exact ⟨0, Nat.zero_le _, rfl, RouteTo.zero, Below.refl _ _⟩
    case round =>
      obtain ⟨k, hk, rfl, hpre, hb⟩ := hrel
      have hB := hb0.trans (hb.mono hb0.size)
      by_cases hlt : k < ws.length
      · have hk1 : k - 1 < ws.length := by omega
        obtain ⟨g, off, rfl, hg, hc⟩ := (h.later hB).at hlt
        have f0 := hc k hlt
        have f1 := hc (k - 1) hk1
        have HB1 := HB0.below hb (by simp)
        have x0 := HB1 0
        have x1 := HB1 1
        simp at x0 x1
        have hzr : w.heap.size < wr.heap.size := by have := hb.size; simp at this; omega
        have HBADH : Hid (¬ HasNm nmP x.2 (ws[k]'hlt) → pb (RouteOk x.2 ws) = false) := fun h1 => HNO.out (fun h2 => h1 (h2 k hlt hlt).1)
        have HBADE : Hid (∀ h0 : 0 < k, (ws[k - 1]'hk1) = (ws[k]'hlt) → pb (RouteOk x.2 ws) = false) := fun h0 h1 => HNO.out (fun h2 => (h2 k hlt hlt).2 h0 h1)
        have HOK : Hid (HasNm nmP x.2 (ws[k]'hlt) → (∀ h0 : 0 < k, ¬ (ws[k - 1]'hk1) = (ws[k]'hlt)) → RouteTo x.2 ws (k + 1)) := fun h1 h2 => hpre.out.next hlt h1 h2
        have hkI : (k : Int) < (ws.length : Int) := by omega
        clear hc hpre HNO HYES h HB1
        generalize ws[k]'hlt = wk at *
        generalize ws[k - 1]'hk1 = wp at *
        have hix := idxOf_has nmP x.2 wk
        have hHN : Hid (HasNm nmP x.2 wk ↔ 0 ≤ idxOf nmP x.2 wk) := hix.1
        have cH : ∀ dd os, Calls Tryz.prog 48 #[.agg #[.slice ao0 x.1.length cap0, .slice ao1 x.2.length cap1], .string wk] (grow (redrawn wr dd) os) (fun e w'' => e = .returned (.int .i64 (idxOf nmP x.2 wk)) ∧ ∃ p : Regrown, w'' = grow (redrawn wr p.d) p.os) := fun dd os => Calls.regrown_of (sPlanPoint x ao0 cap0 ao1 cap1 wk _ (hx.later (hB.trans ((below_regrown wr dd os).mono hB.size))))
        have y0 := cell_regrown x0
        have y1 := cell_regrown x1
        have e0 := cell_regrown f0
        have e1 := cell_regrown f1
        clear x0 x1 f0 f1 hix
        generalize idxOf nmP x.2 wk = ix at *
        by_cases hh : 0 ≤ ix
        · have hhN := hHN.out.2 hh
          have hxd : decide (ix < 0) = false := by simp; omega
          by_cases hk0 : 0 < k
          · have hd0 : decide ((0 : Int) < (k : Int)) = true := by simp; omega
            have hkI1 : (k : Int) - 1 < (ws.length : Int) := by omega
            have hkN : ((k : Int) - 1).toNat = k - 1 := by omega
            have hk1I : (1 : Int) ≤ (k : Int) := by omega
            have hkW : IntKind.i64.wrap ((k : Int) - 1) = (k : Int) - 1 := by rw [IntKind.wrap_i64]; all_goals omega
            by_cases he : wp = wk
            · have HF : Hid (pb (RouteOk x.2 ws) = false) := HBADE.out hk0 he
              have heb : (wp.toList == wk.toList) = true := beqL.2 he
              clear HBADH HBADE HOK he hh hHN hhN
              go_wp2_with fail
              refine Leg.wp_region_qw (by kernel_rfl) (by kernel_rfl) ?_
              refine Leg.QW.want (by kernel_rfl) (fun K hK => ?_)
              go_big_quiet_op
              refine hK _ ?_
              clear hK K
              refine Leg.QW.want (by kernel_rfl) (fun K hK => ?_)
              go_big_quiet_op
              refine hK _ ?_
              clear hK K
              refine Leg.QW.want (by kernel_rfl) (fun K hK => ?_)
              go_big_quiet_op
              refine hK _ ?_
              clear hK K
              refine Leg.QW.want (by kernel_rfl) (fun K hK => ?_)
              go_big_quiet_op
              refine hK _ ?_
              clear hK K
              refine Leg.QW.want (by kernel_rfl) (fun K hK => ?_)
              go_big_quiet_op
              refine hK _ ?_
              clear hK K
              refine Leg.QW.want (by kernel_rfl) (fun K hK => ?_)
              go_big_quiet_op
              refine ⟨_, fun _ => cH _ _, hK _ ?_⟩
              clear hK K
              refine Leg.QW.want (by kernel_rfl) (fun K hK => ?_)
              go_big_quiet_op
              refine hK _ ?_
              clear hK K
              refine Leg.QW.want (by kernel_rfl) (fun K hK => ?_)
              go_big_quiet_op
              refine hK _ ?_
              clear hK K
              refine Leg.QW.want (by kernel_rfl) (fun K hK => ?_)
              go_big_quiet_op
              refine hK _ ?_
              clear hK K
              refine Leg.QW.want (by kernel_rfl) (fun K hK => ?_)
              go_big_quiet_op
              refine hK _ ?_
              clear hK K
              refine Leg.QW.want (by kernel_rfl) (fun K hK => ?_)
              go_big_quiet_op
              refine hK _ ?_
              clear hK K
              refine Leg.QW.want (by kernel_rfl) (fun K hK => ?_)
              go_big_quiet_op
              refine hK _ ?_
              clear hK K
              refine Leg.QW.want (by kernel_rfl) (fun K hK => ?_)
              go_big_quiet_op
              refine hK _ ?_
              clear hK K
              refine Leg.QW.want (by kernel_rfl) (fun K hK => ?_)
              go_big_quiet_op
              refine hK _ ?_
              clear hK K
              refine Leg.QW.want (by kernel_rfl) (fun K hK => ?_)
              go_big_quiet_op
              refine hK _ ?_
              clear hK K
              refine Leg.QW.want (by kernel_rfl) (fun K hK => ?_)
              go_big_quiet_op
              refine hK _ ?_
              clear hK K
              refine Leg.QW.want (by kernel_rfl) (fun K hK => ?_)
              go_big_quiet_op
              refine hK _ ?_
              clear hK K
              refine Leg.QW.want (by kernel_rfl) (fun K hK => ?_)
              go_big_quiet_op
              refine hK _ ?_
              clear hK K
              refine Leg.QW.want (by kernel_rfl) (fun K hK => ?_)
              go_big_quiet_op
              refine hK _ ?_
              clear hK K
              refine Leg.QW.want (by kernel_rfl) (fun K hK => ?_)
              go_big_quiet_op
              refine hK _ ?_
              clear hK K
              refine Leg.QW.want (by kernel_rfl) (fun K hK => ?_)
              go_big_quiet_op
              refine hK _ ?_
              clear hK K
              refine Leg.QW.want (by kernel_rfl) (fun K hK => ?_)
              go_big_quiet_op
              refine hK _ ?_
              clear hK K
              refine Leg.QW.want (by kernel_rfl) (fun K hK => ?_)
              go_big_quiet_op
              refine hK _ ?_
              clear hK K
              refine Leg.QW.nil ?_
              intro _ hw'
              obtain ⟨⟨dq, osq⟩, hw''⟩ := hw'
              subst hw''
              have hbq := hb.trans ((below_regrown wr dq osq).mono hb.size)
              clear hb hB cH y0 y1 e0 e1 hzr hg
              generalize grow (redrawn wr dq) osq = w9 at hbq ⊢
              have hBq := hb0.trans (hbq.mono hb0.size)
              go_wp2
              go_ret
              exact ⟨by rw [HF.out]; rfl, hBq⟩
            · have HN1 : Hid (RouteTo x.2 ws (k + 1)) := HOK.out hhN (fun _ => he)
              have heb : (wp.toList == wk.toList) = false := beqL_no he
              clear HBADH HBADE HOK he hh hHN hhN
              go_wp2_with fail
              refine Leg.wp_region_qw (by kernel_rfl) (by kernel_rfl) ?_
              refine Leg.QW.want (by kernel_rfl) (fun K hK => ?_)
              go_big_quiet_op
              refine hK _ ?_
              clear hK K
              refine Leg.QW.want (by kernel_rfl) (fun K hK => ?_)
              go_big_quiet_op
              refine hK _ ?_
              clear hK K
              refine Leg.QW.want (by kernel_rfl) (fun K hK => ?_)
              go_big_quiet_op
              refine hK _ ?_
              clear hK K
              refine Leg.QW.want (by kernel_rfl) (fun K hK => ?_)
              go_big_quiet_op
              refine hK _ ?_
              clear hK K
              refine Leg.QW.want (by kernel_rfl) (fun K hK => ?_)
              go_big_quiet_op
              refine hK _ ?_
              clear hK K
              refine Leg.QW.want (by kernel_rfl) (fun K hK => ?_)
              go_big_quiet_op
              refine ⟨_, fun _ => cH _ _, hK _ ?_⟩
              clear hK K
              refine Leg.QW.want (by kernel_rfl) (fun K hK => ?_)
              go_big_quiet_op
              refine hK _ ?_
              clear hK K
              refine Leg.QW.want (by kernel_rfl) (fun K hK => ?_)
              go_big_quiet_op
              refine hK _ ?_
              clear hK K
              refine Leg.QW.want (by kernel_rfl) (fun K hK => ?_)
              go_big_quiet_op
              refine hK _ ?_
              clear hK K
              refine Leg.QW.want (by kernel_rfl) (fun K hK => ?_)
              go_big_quiet_op
              refine hK _ ?_
              clear hK K
              refine Leg.QW.want (by kernel_rfl) (fun K hK => ?_)
              go_big_quiet_op
              refine hK _ ?_
              clear hK K
              refine Leg.QW.want (by kernel_rfl) (fun K hK => ?_)
              go_big_quiet_op
              refine hK _ ?_
              clear hK K
              refine Leg.QW.want (by kernel_rfl) (fun K hK => ?_)
              go_big_quiet_op
              refine hK _ ?_
              clear hK K
              refine Leg.QW.want (by kernel_rfl) (fun K hK => ?_)
              go_big_quiet_op
              refine hK _ ?_
              clear hK K
              refine Leg.QW.want (by kernel_rfl) (fun K hK => ?_)
              go_big_quiet_op
              refine hK _ ?_
              clear hK K
              refine Leg.QW.want (by kernel_rfl) (fun K hK => ?_)
              go_big_quiet_op
              refine hK _ ?_
              clear hK K
              refine Leg.QW.want (by kernel_rfl) (fun K hK => ?_)
              go_big_quiet_op
              refine hK _ ?_
              clear hK K
              refine Leg.QW.want (by kernel_rfl) (fun K hK => ?_)
              go_big_quiet_op
              refine hK _ ?_
              clear hK K
              refine Leg.QW.want (by kernel_rfl) (fun K hK => ?_)
              go_big_quiet_op
              refine hK _ ?_
              clear hK K
              refine Leg.QW.want (by kernel_rfl) (fun K hK => ?_)
              go_big_quiet_op
              refine hK _ ?_
              clear hK K
              refine Leg.QW.want (by kernel_rfl) (fun K hK => ?_)
              go_big_quiet_op
              refine hK _ ?_
              clear hK K
              refine Leg.QW.want (by kernel_rfl) (fun K hK => ?_)
              go_big_quiet_op
              refine hK _ ?_
              clear hK K
              refine Leg.QW.want (by kernel_rfl) (fun K hK => ?_)
              go_big_quiet_op
              refine hK _ ?_
              clear hK K
              refine Leg.QW.nil ?_
              intro _ hw'
              obtain ⟨⟨dq, osq⟩, hw''⟩ := hw'
              subst hw''
              have hbq := hb.trans ((below_regrown wr dq osq).mono hb.size)
              clear hb hB cH y0 y1 e0 e1 hzr hg
              generalize grow (redrawn wr dq) osq = w9 at hbq ⊢
              go_wp2
              go_roundw
              case rel => exact ⟨k + 1, by omega, by go_num, HN1, hbq⟩
              case measure => simp [intOf]; omega
          · have hd0 : decide ((0 : Int) < (k : Int)) = false := by simp; omega
            have HN1 : Hid (RouteTo x.2 ws (k + 1)) := HOK.out hhN (fun h0 => absurd h0 hk0)
            clear HBADH HBADE HOK hh hHN hhN
            go_wp2_with fail
            refine Leg.wp_region_qw (by kernel_rfl) (by kernel_rfl) ?_
            refine Leg.QW.want (by kernel_rfl) (fun K hK => ?_)
            go_big_quiet_op
            refine hK _ ?_
            clear hK K
            refine Leg.QW.want (by kernel_rfl) (fun K hK => ?_)
            go_big_quiet_op
            refine hK _ ?_
            clear hK K
            refine Leg.QW.want (by kernel_rfl) (fun K hK => ?_)
            go_big_quiet_op
            refine hK _ ?_
            clear hK K
            refine Leg.QW.want (by kernel_rfl) (fun K hK => ?_)
            go_big_quiet_op
            refine hK _ ?_
            clear hK K
            refine Leg.QW.want (by kernel_rfl) (fun K hK => ?_)
            go_big_quiet_op
            refine hK _ ?_
            clear hK K
            refine Leg.QW.want (by kernel_rfl) (fun K hK => ?_)
            go_big_quiet_op
            refine ⟨_, fun _ => cH _ _, hK _ ?_⟩
            clear hK K
            refine Leg.QW.want (by kernel_rfl) (fun K hK => ?_)
            go_big_quiet_op
            refine hK _ ?_
            clear hK K
            refine Leg.QW.want (by kernel_rfl) (fun K hK => ?_)
            go_big_quiet_op
            refine hK _ ?_
            clear hK K
            refine Leg.QW.want (by kernel_rfl) (fun K hK => ?_)
            go_big_quiet_op
            refine hK _ ?_
            clear hK K
            refine Leg.QW.want (by kernel_rfl) (fun K hK => ?_)
            go_big_quiet_op
            refine hK _ ?_
            clear hK K
            refine Leg.QW.want (by kernel_rfl) (fun K hK => ?_)
            go_big_quiet_op
            refine hK _ ?_
            clear hK K
            refine Leg.QW.skip (by kernel_rfl) ?_
            refine Leg.QW.skip (by kernel_rfl) ?_
            refine Leg.QW.skip (by kernel_rfl) ?_
            refine Leg.QW.skip (by kernel_rfl) ?_
            refine Leg.QW.skip (by kernel_rfl) ?_
            refine Leg.QW.skip (by kernel_rfl) ?_
            refine Leg.QW.skip (by kernel_rfl) ?_
            refine Leg.QW.skip (by kernel_rfl) ?_
            refine Leg.QW.skip (by kernel_rfl) ?_
            refine Leg.QW.skip (by kernel_rfl) ?_
            refine Leg.QW.want (by kernel_rfl) (fun K hK => ?_)
            go_simp
            refine hK _ ?_
            clear hK K
            refine Leg.QW.want (by kernel_rfl) (fun K hK => ?_)
            go_big_quiet_op
            refine hK _ ?_
            clear hK K
            refine Leg.QW.nil ?_
            intro _ hw'
            obtain ⟨⟨dq, osq⟩, hw''⟩ := hw'
            subst hw''
            have hbq := hb.trans ((below_regrown wr dq osq).mono hb.size)
            clear hb hB cH y0 y1 e0 e1 hzr hg
            generalize grow (redrawn wr dq) osq = w9 at hbq ⊢
            go_wp2
            go_roundw
            case rel => exact ⟨k + 1, by omega, by go_num, HN1, hbq⟩
            case measure => simp [intOf]; omega
        · have hxd : decide (ix < 0) = true := by simp; omega
          have HF : Hid (pb (RouteOk x.2 ws) = false) := HBADH.out (fun h1 => hh (hHN.out.1 h1))
          clear HBADH HBADE HOK hh hHN
          go_wp2_with fail
          refine Leg.wp_region_qw (by kernel_rfl) (by kernel_rfl) ?_
          refine Leg.QW.want (by kernel_rfl) (fun K hK => ?_)
          go_big_quiet_op
          refine hK _ ?_
          clear hK K
          refine Leg.QW.want (by kernel_rfl) (fun K hK => ?_)
          go_big_quiet_op
          refine hK _ ?_
          clear hK K
          refine Leg.QW.want (by kernel_rfl) (fun K hK => ?_)
          go_big_quiet_op
          refine hK _ ?_
          clear hK K
          refine Leg.QW.want (by kernel_rfl) (fun K hK => ?_)
          go_big_quiet_op
          refine hK _ ?_
          clear hK K
          refine Leg.QW.want (by kernel_rfl) (fun K hK => ?_)
          go_big_quiet_op
          refine hK _ ?_
          clear hK K
          refine Leg.QW.want (by kernel_rfl) (fun K hK => ?_)
          go_big_quiet_op
          refine ⟨_, fun _ => cH _ _, hK _ ?_⟩
          clear hK K
          refine Leg.QW.want (by kernel_rfl) (fun K hK => ?_)
          go_big_quiet_op
          refine hK _ ?_
          clear hK K
          refine Leg.QW.want (by kernel_rfl) (fun K hK => ?_)
          go_big_quiet_op
          refine hK _ ?_
          clear hK K
          refine Leg.QW.skip (by kernel_rfl) ?_
          refine Leg.QW.skip (by kernel_rfl) ?_
          refine Leg.QW.skip (by kernel_rfl) ?_
          refine Leg.QW.skip (by kernel_rfl) ?_
          refine Leg.QW.skip (by kernel_rfl) ?_
          refine Leg.QW.skip (by kernel_rfl) ?_
          refine Leg.QW.skip (by kernel_rfl) ?_
          refine Leg.QW.skip (by kernel_rfl) ?_
          refine Leg.QW.skip (by kernel_rfl) ?_
          refine Leg.QW.skip (by kernel_rfl) ?_
          refine Leg.QW.skip (by kernel_rfl) ?_
          refine Leg.QW.skip (by kernel_rfl) ?_
          refine Leg.QW.skip (by kernel_rfl) ?_
          refine Leg.QW.skip (by kernel_rfl) ?_
          refine Leg.QW.want (by kernel_rfl) (fun K hK => ?_)
          go_simp
          refine hK _ ?_
          clear hK K
          refine Leg.QW.nil ?_
          intro _ hw'
          obtain ⟨⟨dq, osq⟩, hw''⟩ := hw'
          subst hw''
          have hbq := hb.trans ((below_regrown wr dq osq).mono hb.size)
          clear hb hB cH y0 y1 e0 e1 hzr hg
          generalize grow (redrawn wr dq) osq = w9 at hbq ⊢
          have hBq := hb0.trans (hbq.mono hb0.size)
          go_wp2
          go_ret
          exact ⟨by rw [HF.out]; rfl, hBq⟩
      · have hke : k = ws.length := by omega
        subst hke
        have HR : Hid (pb (RouteOk x.2 ws) = true) := HYES.out hpre.out
        clear hpre HYES HNO h hx
        go_wp2
        go_ret
        exact ⟨by rw [HR.out]; rfl, hB⟩
  · have HR : Hid (pb (RouteOk x.2 ws) = false) := pb_no (fun h1 => hr h1.1)
    go_enter Tryz.func78, Tryz.ntmps78
    go_wp2_with (go_at_call 81; refine (s11in_no _ _ _ _ hr).mono ?_; rintro e w' ⟨rfl, hwq⟩; subst hwq)
    go_ret
    exact ⟨by rw [HR.out]; rfl, hb0⟩

theorem sRoute (x : DPlanBase) (ao0 : Option Addr) (cap0 : Nat) (ao1 : Option Addr) (cap1 : Nat) (ao : Option Addr) (cap : Nat) (ws : List ByteArray) (w : World) (hx : BaseAt w x ao0 cap0 ao1 cap1) (h : TxtAt w ao ws) (hwl : ws.length ≤ 1048577) :
    Calls Tryz.prog 78 #[.agg #[.slice ao0 x.1.length cap0, .slice ao1 x.2.length cap1], .slice ao ws.length cap] w fun e w' => e = .returned (.bool (pb (RouteOk x.2 ws))) ∧ Below w.heap.size w w' :=
  sRouteO x ao0 cap0 ao1 cap1 ao cap ws w hx (TxO.of_txt h) hwl

end Go.Proofs.YtgnjkpmbppmoeaaGreat
