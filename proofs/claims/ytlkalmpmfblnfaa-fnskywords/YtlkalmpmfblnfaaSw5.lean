/- DERIVED. spec.SkyWords: its walk. -/
import Derived.Test.YtlkalmpmfblnfaaSw4
namespace Go.Proofs.Ytlkalmpmfblnfaa
open Go.RowKit
set_option linter.unusedSimpArgs false
set_option linter.unusedVariables false

theorem runS_next {L : List UInt8} {s : ByteArray} {k : Nat} (h : k < s.size) {st st' : List (List UInt8) × List UInt8} (hr : Sw.runS ([], []) (s.data.toList.take k) = some st) (hs : Sw.stepS st s[k] = some st') : Sw.runS ([], []) (s.data.toList.take (k + 1)) = some st' := by
  rw [take_next s k h, Sw.runS_snoc, hr]; exact hs

theorem runS_fails {s : ByteArray} {k : Nat} (h : k < s.size) {st : List (List UInt8) × List UInt8} (hr : Sw.runS ([], []) (s.data.toList.take k) = some st) (hs : Sw.stepS st s[k] = none) : Sw.runS ([], []) s.data.toList = none := by
  have h1 : Sw.runS ([], []) (s.data.toList.take (k + 1)) = none := by rw [take_next s k h, Sw.runS_snoc, hr]; exact hs
  rw [← List.take_append_drop (k + 1) s.data.toList, Sw.runS_app_none _ _ _ h1]

theorem runS_len {l : List UInt8} : ∀ {st st' : List (List UInt8) × List UInt8}, st.2.length ≤ 24 → Sw.runS st l = some st' → Sw.cnt st' ≤ Sw.cnt st + l.length ∧ st'.2.length ≤ 24 := by
  induction l with
  | nil => intro st st' h0 h; simp only [Sw.runS, Option.some.injEq] at h; subst h; exact ⟨by simp, h0⟩
  | cons c l ih =>
    intro st st' h0 h
    simp only [Sw.runS] at h
    cases h2 : Sw.stepS st c with
    | none => rw [h2] at h; cases h
    | some s2 =>
      rw [h2] at h
      have h3 : Sw.cnt s2 ≤ Sw.cnt st + 1 ∧ s2.2.length ≤ 24 := by
        unfold Sw.stepS at h2
        split at h2
        · cases h2; simp only [Sw.cnt, Sw.endC]; split <;> simp
        · split at h2
          · cases h2
            rename_i hc
            refine ⟨?_, by simp; omega⟩
            simp only [Sw.cnt, Sw.endC]
            by_cases e : st.2 = []
            · simp [e]
            · simp [e]
          · cases h2
      have h4 := ih h3.2 h
      simp only [List.length_cons]
      omega

theorem cnt_ge (st : List (List UInt8) × List UInt8) : st.1.length ≤ Sw.cnt st := by
  simp only [Sw.cnt, Sw.endC]; split <;> simp

theorem run_bound {s : ByteArray} {k : Nat} (hk : k ≤ s.size) {out : List (List UInt8)} {wd : List UInt8} (h : Sw.runS ([], []) (s.data.toList.take k) = some (out, wd)) : out.length ≤ s.size ∧ wd.length ≤ 24 := by
  have h1 := runS_len (by simp) h
  have h2 := cnt_ge (out, wd)
  have h3 : Sw.cnt (([], []) : List (List UInt8) × List UInt8) = 0 := rfl
  have h4 : (s.data.toList.take k).length ≤ k := List.length_take_le _ _
  exact ⟨by simp only at h2; omega, h1.2⟩

theorem split_byte (t : ByteArray) (k : Nat) (h : k < t.size) : t.extract k (k + 1) = ⟨#[t[k]]⟩ := by
  apply ByteArray.ext
  apply Array.ext'
  rw [Lib.extract_data]
  have h2 : k < t.data.toList.length := by simpa using h
  rw [List.drop_eq_getElem_cons h2]
  simp
  rfl

theorem empty_own (w : World) (e : TypeId) (B : Nat) (hB : B ≤ w.heap.size) : (w.alloc (.cells #[] e)).ownsRow B e 1 (.slice (some ⟨w.heap.size, 0, none⟩) 0 0) 0 [] :=
  World.ownsRow_made w #[] 0 hB (Nat.zero_le _) rfl

set_option maxHeartbeats 1000000 in
theorem specWords_any (s : ByteArray) (w : World) (hs : s.size ≤ 1073741823) :
    Calls Try.prog 7 #[.string s] w fun e w' =>
      Below w.heap.size w w' ∧
      ((Sw.wordsS (Sw.bare s.data.toList) = none ∧ ∃ ao cap, e = .returned (.tuple #[.slice ao 0 cap, .bool false])) ∨
       ∃ ws ao cap, Sw.wordsS (Sw.bare s.data.toList) = some ws ∧ e = .returned (.tuple #[.slice ao ws.length cap, .bool true]) ∧ w'.ownsRow w.heap.size 9 1 (.slice ao ws.length cap) ws.length (strs ws)) := by
  obtain ⟨i0, hi, hz0, hz1, hz2⟩ := info_parts Try.infoStr
  go_enter Try.func7, Try.ntmps7
  go_wp2_with fail
  refine (specBare_any s _ (by omega)).mono ?_
  rintro e w' ⟨b, rfl, hb, rfl⟩
  have hbs : b.size ≤ 1073741823 := by
    have := bare_le s.data.toList
    rw [← hb] at this
    simp at this
    omega
  have hadd := fun W => run_string_add_sum (P := Try.prog) W b ⟨#[32]⟩ (by have : (⟨#[32]⟩ : ByteArray).size = 1 := rfl
                                                                           omega)
  obtain ⟨t, ht⟩ : ∃ t, t = b ++ ⟨#[32]⟩ := ⟨_, rfl⟩
  have hts : t.size ≤ 1073741824 := by
    have h1 : (⟨#[32]⟩ : ByteArray).size = 1 := rfl
    rw [ht, ByteArray.size_append]; omega
  have HT : Hid (t.data.toList = Sw.bare s.data.toList ++ [32]) := by
    show _ = _
    rw [ht, ByteArray.data_append]; simp [hb]
  rw [← ht] at hadd
  clear hb ht hbs
  go_wp2_with fail
  go_loopw [4, 5, 7] (fun v u i wr => ∃ (k : Nat) (out : List (List UInt8)) (wd : List UInt8) (ao : Option Addr) (cap : Nat), k ≤ t.size ∧ i = .int .i64 k ∧ v = .slice ao out.length cap ∧ u = .string ⟨wd.toArray⟩ ∧ Hid (Sw.runS ([], []) (t.data.toList.take k) = some (out, wd)) ∧
      wr.ownsRow w.heap.size 9 1 (.slice ao out.length cap) out.length (strs out) ∧ Below w.heap.size w wr) (fun _ _ i _ => t.size - (intOf i).toNat)
  case atStart => exact ⟨0, [], [], _, _, Nat.zero_le _, rfl, rfl, rfl, by show _ = _; simp [Sw.runS], empty_own _ _ _ (Nat.le_refl _), (Below.refl _ _).alloc (Nat.le_refl _) _⟩
  case round =>
    obtain ⟨k, out, wd, ao, cap, hk, rfl, rfl, rfl, hrun, hown, hbel⟩ := hrel
    have hfin := run_bound hk hrun.out
    have hsz := hbel.size
    by_cases hp : k < t.size
    · have hsp : t.extract k (k + 1) = ⟨#[t[k]]⟩ := split_byte t k hp
      by_cases hc : t[k] = 32
      · by_cases hw : wd = []
        · have HR : Hid _ := runS_next (L := []) hp hrun.out (show Sw.stepS (out, wd) t[k] = some (out, []) by simp [Sw.stepS, hw, hc])
          subst hw
          clear hrun
          go_wp2
          go_roundw
          case rel => exact ⟨k + 1, out, [], ao, cap, by omega, by go_num, rfl, rfl, HR, hown, hbel⟩
          case measure => simp [intOf]; omega
        · have HR : Hid _ := runS_next (L := []) hp hrun.out (show Sw.stepS (out, wd) t[k] = some (out ++ [wd], []) by simp [Sw.stepS, hw, hc])
          have hw2 : wd.isEmpty = false := by simp [hw]
          clear hrun hw
          go_wp2_with (at_builtin; refine wpList_append_own _ rfl _ _ 24 rfl w.heap.size 9 i0 (.string ByteArray.empty) 1 16 Try.underlying24 hi hz0 hz1 hz2 rfl (by decide) _ _ _ rfl (hown.alloc _) ⟨wr.heap.size, 0, none⟩ 1 1 [.string ⟨wd.toArray⟩] rfl rfl ?c1 ?c2 ?c3 ?c4 ?c5 ?_)
          case c1 =>
            intro j u hj
            match j, hj with
            | 0, hj => simp at hj; subst hj; simp [Addr.add]
          case c2 => intro u hu; simp at hu; subst hu; rfl
          case c3 => unfold maxLen; omega
          case c4 => omega
          case c5 => simp; omega
          intro v' w1 hown' hgrow _
          obtain ⟨g, cap', rfl⟩ := owns_pos hown'
          have hB : Below w.heap.size w w1 := (hbel.alloc hsz _).grown hgrow (by simp; omega) (own_ge hown)
          have hO : w1.ownsRow w.heap.size 9 1 (.slice (some ⟨g, 0, none⟩) (out ++ [wd]).length cap') (out ++ [wd]).length (strs (out ++ [wd])) := by rw [strs_snoc]; simpa using hown'
          clear hgrow hown' hown hbel
          go_wp2
          go_roundw
          case rel => exact ⟨k + 1, out ++ [wd], [], _, _, by omega, by go_num, by simp, rfl, HR, hO, hB⟩
          case measure => simp [intOf]; omega
      · have hc2 : ((t[k].toNat : Int) == 32) = false := ne32 hc
        have hadd2 := fun W => run_string_add_sum (P := Try.prog) W ⟨wd.toArray⟩ ⟨#[t[k]]⟩ (by
          have h1 : (⟨#[t[k]]⟩ : ByteArray).size = 1 := rfl
          have h2 : (⟨wd.toArray⟩ : ByteArray).size = wd.length := by simp [ByteArray.size]
          omega)
        rw [add_byte] at hadd2
        by_cases hk2 : Sw.okB t[k] = true ∧ wd.length < 24
        · have HR : Hid _ := runS_next (L := []) hp hrun.out (show Sw.stepS (out, wd) t[k] = some (out, wd ++ [t[k]]) by simp [Sw.stepS, hc, hk2])
          have hk1 : 33 ≤ t[k].toNat ∧ t[k].toNat ≤ 126 := by simpa [Sw.okB] using hk2.1
          have hwl := hk2.2
          clear hrun hk2 hc
          go_wp2_with (go_at_call 19; refine (specIn_yes _ _ (by omega) (by omega)).mono ?_; rintro e w' ⟨rfl, rfl⟩)
          go_roundw
          case rel => exact ⟨k + 1, out, wd ++ [t[k]], _, _, by omega, by go_num, rfl, rfl, HR, hown, hbel⟩
          case measure => simp [intOf]; omega
        · have HR : Hid _ := runS_fails hp hrun.out (show Sw.stepS (out, wd) t[k] = none by simp only [Sw.stepS, hc, hk2, if_false])
          have HW : Hid (Sw.wordsS (Sw.bare s.data.toList) = none) := by show _ = _; unfold Sw.wordsS; rw [← HT.out, HR.out]
          clear hrun HR
          by_cases ho : Sw.okB t[k] = true
          · have hk1 : 33 ≤ t[k].toNat ∧ t[k].toNat ≤ 126 := by simpa [Sw.okB] using ho
            have hwl : wd.length = 24 := by have : ¬ wd.length < 24 := fun h => hk2 ⟨ho, h⟩
                                            omega
            clear hk2 ho hc
            go_wp2_with (go_at_call 19; refine (specIn_yes _ _ (by omega) (by omega)).mono ?_; rintro e w' ⟨rfl, rfl⟩)
            go_ret2
            exact ⟨hbel.alloc hsz _, .inl ⟨HW.out, _, _, rfl⟩⟩
          · have hk1 : (t[k].toNat : Int) < 33 ∨ 126 < (t[k].toNat : Int) := by simp [Sw.okB] at ho; omega
            have hlt : t[k].toNat < 256 := t[k].toNat_lt
            clear hk2 ho hc
            go_wp2_with (go_at_call 19; refine (specIn_no _ _ (by omega)).mono ?_; rintro e w' ⟨rfl, rfl⟩)
            go_ret2
            exact ⟨hbel.alloc hsz _, .inl ⟨HW.out, _, _, rfl⟩⟩
    · have HR : Hid (Sw.runS ([], []) t.data.toList = some (out, wd)) := by
        have := hrun.out
        rw [List.take_of_length_le (by simp; omega)] at this
        exact this
      clear hrun
      by_cases h12 : 12 < out.length
      · have HW : Hid (Sw.wordsS (Sw.bare s.data.toList) = none) := by show _ = _; unfold Sw.wordsS; rw [← HT.out, HR.out]; simp [h12]
        go_wp2
        go_ret2
        exact ⟨hbel.alloc hsz _, .inl ⟨HW.out, _, _, rfl⟩⟩
      · have HW : Hid (Sw.wordsS (Sw.bare s.data.toList) = some out) := by show _ = _; unfold Sw.wordsS; rw [← HT.out, HR.out]; simp [h12]
        go_wp2
        go_ret2
        exact ⟨hbel, .inr ⟨out, ao, cap, HW.out, rfl, hown⟩⟩

end Go.Proofs.Ytlkalmpmfblnfaa
