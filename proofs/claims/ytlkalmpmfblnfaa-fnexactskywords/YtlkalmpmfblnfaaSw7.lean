/- DERIVED. laws.FnExactSkyWords: its walk. -/
import Derived.Test.YtlkalmpmfblnfaaSw6
namespace Go.Proofs.Ytlkalmpmfblnfaa
open Go.RowKit
set_option linter.unusedSimpArgs false
set_option linter.unusedVariables false

set_option maxHeartbeats 400000 in
theorem exactWords_long (s : ByteArray) (w : World) (h : 1048576 < s.size) :
    Calls Try.prog 4 #[.string s] w fun e w' => e = .returned (.bool true) ∧ Below w.heap.size w w' := by
  go_enter Try.func4, Try.ntmps4
  go_wp2_with fail
  go_ret
  exact ⟨rfl, Below.refl _ _⟩

theorem has_mono {w w' : World} {ao : Option Addr} {ws : List (List UInt8)} (h : HasStrs w ao ws) (hb : Below w.heap.size w w') : HasStrs w' ao ws := by
  rcases h with h | ⟨g, h1, h2⟩
  · exact .inl h
  · refine .inr ⟨g, h1, fun i hi => ?_⟩
    have hlt : g < w.heap.size := World.block_lt_of_cell? w ⟨g, i, none⟩ (h2 i hi)
    exact (hb.cell (p := ⟨g, i, none⟩) hlt).trans (h2 i hi)

set_option maxHeartbeats 1000000 in
theorem exactWords_no (s : ByteArray) (w : World) (h : s.size ≤ 1048576) (hno : Sw.wordsC (Sw.bare s.data.toList) = none) :
    Calls Try.prog 4 #[.string s] w fun e w' => e = .returned (.bool true) ∧ Below w.heap.size w w' := by
  have HN : Hid (Sw.wordsC (Sw.bare s.data.toList) = none) := hno
  have HN2 : Hid (Sw.wordsS (Sw.bare s.data.toList) = none) := by rw [Sw.words_same] at hno; exact hno
  clear hno
  go_enter Try.func4, Try.ntmps4
  go_wp2_with fail
  refine (specWords_any s _ (by omega)).mono ?_
  rintro e w1 ⟨hb1, ⟨_, ao, cap, rfl⟩ | ⟨ws, ao, cap, hw, _⟩⟩
  · go_wp2_with fail
    refine (skyWords_any s _ (by omega)).mono ?_
    rintro e w2 ⟨hb2, ⟨_, rfl⟩ | ⟨ws, ao, cap, hw, _⟩⟩
    · go_wp2_with fail
      refine (eqStrs_none _ _ _ _ _).mono ?_
      rintro e w3 ⟨rfl, rfl⟩
      go_wp2_with fail
      refine (markStrs_none _ _ _ _).mono ?_
      rintro e w4 ⟨rfl, rfl⟩
      go_wp2_with fail
      refine (heldStrs_none _ _ _ _).mono ?_
      rintro e w5 ⟨rfl, rfl⟩
      go_wp2_with fail
      refine (skyWords_any s _ (by omega)).mono ?_
      rintro e w6 ⟨hb3, ⟨_, rfl⟩ | ⟨ws, ao, cap, hw, _⟩⟩
      · go_wp2_with fail
        refine (eqStrs_none _ _ _ _ _).mono ?_
        rintro e w7 ⟨rfl, rfl⟩
        go_wp2_with fail
        refine (heldStrs_none _ _ _ _).mono ?_
        rintro e w8 ⟨rfl, rfl⟩
        go_wp2
        go_ret
        exact ⟨rfl, (hb1.trans (hb2.mono hb1.size)).trans (hb3.mono (Nat.le_trans hb1.size hb2.size))⟩
      · exact absurd (HN.out.symm.trans hw) (by simp)
    · exact absurd (HN.out.symm.trans hw) (by simp)
  · exact absurd (HN2.out.symm.trans hw) (by simp)

set_option maxHeartbeats 1000000 in
theorem exactWords_nil (s : ByteArray) (w : World) (h : s.size ≤ 1048576) (hyes : Sw.wordsC (Sw.bare s.data.toList) = some []) :
    Calls Try.prog 4 #[.string s] w fun e w' => e = .returned (.bool true) ∧ Below w.heap.size w w' := by
  have HN : Hid (Sw.wordsC (Sw.bare s.data.toList) = some []) := hyes
  have HN2 : Hid (Sw.wordsS (Sw.bare s.data.toList) = some []) := by rw [Sw.words_same] at hyes; exact hyes
  clear hyes
  go_enter Try.func4, Try.ntmps4
  go_wp2_with fail
  refine (specWords_any s _ (by omega)).mono ?_
  rintro e w1 ⟨hb1, ⟨hw, _⟩ | ⟨ws, ao, cap, hw, rfl, _⟩⟩
  · exact absurd (HN2.out.symm.trans hw) (by simp)
  obtain rfl : [] = ws := Option.some.inj (HN2.out.symm.trans hw)
  clear hw
  go_wp2_with fail
  refine (skyWords_any s _ (by omega)).mono ?_
  rintro e w2 ⟨hb2, ⟨hw, _⟩ | ⟨ws, ao2, cap2, hw, rfl, _⟩⟩
  · exact absurd (HN.out.symm.trans hw) (by simp)
  obtain rfl : [] = ws := Option.some.inj (HN.out.symm.trans hw)
  clear hw
  go_wp2_with fail
  refine (eqStrs_none _ _ _ _ _).mono ?_
  rintro e w3 ⟨rfl, rfl⟩
  go_wp2_with fail
  refine (markStrs_none _ _ _ _).mono ?_
  rintro e w4 ⟨rfl, rfl⟩
  go_wp2_with fail
  refine (heldStrs_none _ _ _ _).mono ?_
  rintro e w5 ⟨rfl, rfl⟩
  go_wp2_with fail
  refine (skyWords_any s _ (by omega)).mono ?_
  rintro e w6 ⟨hb3, ⟨hw, _⟩ | ⟨ws, ao3, cap3, hw, rfl, _⟩⟩
  · exact absurd (HN.out.symm.trans hw) (by simp)
  obtain rfl : [] = ws := Option.some.inj (HN.out.symm.trans hw)
  clear hw
  go_wp2_with fail
  refine (eqStrs_none _ _ _ _ _).mono ?_
  rintro e w7 ⟨rfl, rfl⟩
  go_wp2_with fail
  refine (heldStrs_none _ _ _ _).mono ?_
  rintro e w8 ⟨rfl, rfl⟩
  go_wp2
  go_ret
  exact ⟨rfl, (hb1.trans (hb2.mono hb1.size)).trans (hb3.mono (Nat.le_trans hb1.size hb2.size))⟩

theorem marks_cells {w : World} {B g n cap k : Nat} (h : w.ownsRow B 9 1 (.slice (some ⟨g, 0, none⟩) n cap) n (strs (marks k n))) : ∀ i, i < n → w.cell? ⟨g, i, none⟩ = some (.string ⟨(markL (k + i)).toArray⟩) := by
  intro i hi
  rw [h.cellAt i (by omega)]
  simp [strs, marks, hi]

set_option maxHeartbeats 1000000 in
theorem exactWords_yes (s : ByteArray) (w : World) (h : s.size ≤ 1048576) (x : List UInt8) (t : List (List UInt8)) (hyes : Sw.wordsC (Sw.bare s.data.toList) = some (x :: t)) :
    Calls Try.prog 4 #[.string s] w fun e w' => e = .returned (.bool true) ∧ Below w.heap.size w w' := by
  have hle := Sw.wordsC_le hyes
  obtain ⟨ws, hws⟩ : ∃ ws, ws = x :: t := ⟨_, rfl⟩
  obtain ⟨n, hn⟩ : ∃ n, ws.length = n + 1 := ⟨t.length, by rw [hws]; rfl⟩
  rw [← hws] at hyes hle
  have HN : Hid (Sw.wordsC (Sw.bare s.data.toList) = some ws) := hyes
  have HN2 : Hid (Sw.wordsS (Sw.bare s.data.toList) = some ws) := by rw [Sw.words_same] at hyes; exact hyes
  have Hn : Hid (ws.length = n + 1) := hn
  clear hyes hws hn
  go_enter Try.func4, Try.ntmps4
  go_wp2_with fail
  refine (specWords_any s _ (by omega)).mono ?_
  rintro e w1 ⟨hb1, ⟨hw, _⟩ | ⟨ws1, ao, cap, hw, rfl, hO1⟩⟩
  · exact absurd (HN2.out.symm.trans hw) (by simp)
  obtain rfl : ws = ws1 := Option.some.inj (HN2.out.symm.trans hw)
  have hH1 := has_of_owns rfl hO1
  clear hw hO1
  go_wp2_with fail
  refine (skyWords_any s _ (by omega)).mono ?_
  rintro e w2 ⟨hb2, ⟨hw, _⟩ | ⟨ws1, ao2, cap2, hw, rfl, hO2⟩⟩
  · exact absurd (HN.out.symm.trans hw) (by simp)
  obtain rfl : ws = ws1 := Option.some.inj (HN.out.symm.trans hw)
  obtain ⟨g, hg⟩ : ∃ g, ao2 = some ⟨g, 0, none⟩ := by
    have h2 := hO2
    rw [Hn.out] at h2
    obtain ⟨g, c, hv⟩ := owns_pos h2
    cases hv
    exact ⟨g, rfl⟩
  subst hg
  have hH2 := has_of_owns rfl hO2
  clear hw
  go_wp2_with fail
  refine (eqStrs_same _ _ _ _ ws _ (by omega) hH2 (has_mono hH1 hb2)).mono ?_
  rintro e w3 ⟨rfl, nd, rfl⟩
  go_wp2_with fail
  refine (markStrs_any g cap2 w1.heap.size 1 ws (w2.drewN nd) (by omega) (by omega) hb2.size (owns_below hO2 (below_drewN' w2 nd))).mono ?_
  rintro e w4 ⟨rfl, hb4, hO4⟩
  have hc4 := marks_cells hO4
  have hg4 : g < w4.heap.size := (hO4.lt g rfl).2
  have hs4 : w1.heap.size ≤ w4.heap.size := Nat.le_trans hb2.size hb4.size
  have hb14 : Below w1.heap.size w1 w4 := (hb2.trans ((below_drewN' w2 nd).mono hb2.size)).trans hb4
  clear hO2 hO4 hH2 hb2 hb4
  go_wp2_with fail
  refine (heldStrs_any g cap2 1 ws.length _ (by omega) (by omega) hc4 hg4).mono ?_
  rintro e w5 ⟨rfl, hb5⟩
  go_wp2_with fail
  refine (skyWords_any s _ (by omega)).mono ?_
  rintro e w6 ⟨hb6, ⟨hw, _⟩ | ⟨ws1, ao3, cap3, hw, rfl, hO6⟩⟩
  · exact absurd (HN.out.symm.trans hw) (by simp)
  obtain rfl : ws = ws1 := Option.some.inj (HN.out.symm.trans hw)
  have hH6 := has_of_owns rfl hO6
  have hb46 : Below w4.heap.size w4 w6 := hb5.trans (hb6.mono hb5.size)
  have hb16 : Below w1.heap.size w1 w6 := hb14.trans (hb46.mono hs4)
  clear hw hO6
  go_wp2_with fail
  refine (eqStrs_same _ _ _ _ ws _ (by omega) hH6 (has_mono hH1 hb16)).mono ?_
  rintro e w7 ⟨rfl, nd2, rfl⟩
  have hb47 : Below w4.heap.size w4 (w6.drewN nd2) := hb46.trans ((below_drewN' w6 nd2).mono hb46.size)
  go_wp2_with fail
  refine (heldStrs_any g cap2 1 ws.length (w6.drewN nd2) (by omega) (by omega) (fun i hi => (hb47.cell (p := ⟨g, i, none⟩) hg4).trans (hc4 i hi)) (Nat.lt_of_lt_of_le hg4 hb47.size)).mono ?_
  rintro e w8 ⟨rfl, hb8⟩
  have hfin : Below w.heap.size w w8 := ((hb1.trans (hb16.mono hb1.size)).trans ((below_drewN' w6 nd2).mono (Nat.le_trans hb1.size hb16.size))).trans (hb8.mono (Nat.le_trans hb1.size (Nat.le_trans hb16.size (below_drewN' w6 nd2).size)))
  go_wp2
  go_ret
  exact ⟨rfl, hfin⟩

theorem exactWords_any (s : ByteArray) (w : World) :
    Calls Try.prog 4 #[.string s] w fun e w' => e = .returned (.bool true) ∧ Below w.heap.size w w' := by
  by_cases h : 1048576 < s.size
  · exact exactWords_long s w h
  · cases hw : Sw.wordsC (Sw.bare s.data.toList) with
    | none => exact exactWords_no s w (by omega) hw
    | some ws =>
      cases ws with
      | nil => exact exactWords_nil s w (by omega) hw
      | cons x t => exact exactWords_yes s w (by omega) x t hw

end Go.Proofs.Ytlkalmpmfblnfaa
