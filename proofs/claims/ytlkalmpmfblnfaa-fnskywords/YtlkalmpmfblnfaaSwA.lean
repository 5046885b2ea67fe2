/- DERIVED. laws.FnSkyWords: its walk. -/
import Derived.Test.YtlkalmpmfblnfaaSw6
import Derived.Test.YtlkalmpmfblnfaaSw9
import Derived.Test.YtlkalmpmfblnfaaRd2
namespace Go.Proofs.Ytlkalmpmfblnfaa
open Go.RowKit
set_option linter.unusedSimpArgs false
set_option linter.unusedVariables false

set_option maxHeartbeats 400000 in
theorem wm_none (ao bo : Option Addr) (ca cb : Nat) (w : World) :
    Calls Try.prog 8 #[.slice ao 0 ca, .slice bo 0 cb] w fun e w' => e = .returned (.bool true) ∧ w' = w := by
  go_enter Try.func8, Try.ntmps8
  go_wp2
  go_loop [5] (fun i => i = .int .i64 0) (fun _ => 0)
  case atStart => exact rfl
  case round =>
    subst hrel
    go_wp2
    go_ret
    exact ⟨rfl, rfl⟩

set_option maxHeartbeats 400000 in
theorem wm_same (ao bo : Option Addr) (ca cb : Nat) (ws : List (List UInt8)) (w : World) (hn : ws.length ≤ 1000) (ha : HasStrs w ao ws) (hb : HasStrs w bo ws) :
    Calls Try.prog 8 #[.slice ao ws.length ca, .slice bo ws.length cb] w fun e w' => e = .returned (.bool true) ∧ ∃ n, w' = w.drewN n := by
  rcases ha with rfl | ⟨g, rfl, hca⟩
  · exact (wm_none ao bo ca cb w).mono (fun e w' h => ⟨h.1, 0, h.2⟩)
  · rcases hb with rfl | ⟨g2, rfl, hcb⟩
    · exact (wm_none _ bo ca cb w).mono (fun e w' h => ⟨h.1, 0, h.2⟩)
    · go_enter Try.func8, Try.ntmps8
      go_wp2
      go_loopw [5] (fun i wr => ∃ k : Nat, k ≤ ws.length ∧ i = .int .i64 k ∧ ∃ n, wr = w.drewN n) (fun i _ => ws.length - (intOf i).toNat)
      case atStart => exact ⟨0, Nat.zero_le _, rfl, 0, rfl⟩
      case round =>
        obtain ⟨k, hk, rfl, n, rfl⟩ := hrel
        by_cases hlt : k < ws.length
        · have c1 := hca k hlt
          have c2 := hcb k hlt
          clear hca hcb
          go_wp2
          go_quiet (fail)
          go_wp2
          go_roundw
          case rel => exact ⟨k + 1, by omega, by go_num, _, rfl⟩
          case measure => simp [intOf]; omega
        · go_wp2
          go_ret
          exact ⟨rfl, _, rfl⟩


theorem has_mono2 {w w' : World} {ao : Option Addr} {ws : List (List UInt8)} (h : HasStrs w ao ws) (hb : Below w.heap.size w w') : HasStrs w' ao ws := by
  rcases h with h | ⟨g, h1, h2⟩
  · exact .inl h
  · refine .inr ⟨g, h1, fun i hi => ?_⟩
    have hlt : g < w.heap.size := World.block_lt_of_cell? w ⟨g, i, none⟩ (h2 i hi)
    exact (hb.cell (p := ⟨g, i, none⟩) hlt).trans (h2 i hi)

theorem skyWords_has (s : ByteArray) (w : World) (hs : s.size ≤ 1073741823) :
    Calls Try.prog 6 #[.string s] w fun e w' => ∃ ao cap, e = .returned (.tuple #[.slice ao (Sw.res (Sw.bare s.data.toList)).1.length cap, .bool (Sw.res (Sw.bare s.data.toList)).2]) ∧ HasStrs w' ao (Sw.res (Sw.bare s.data.toList)).1 ∧ Below w.heap.size w w' := by
  refine (skyWords_any s w (by omega)).mono ?_
  rintro e w' ⟨hb, ⟨h1, rfl⟩ | ⟨ws, ao, cap, h1, rfl, hO⟩⟩
  · simp only [Sw.res, h1]
    exact ⟨none, 0, rfl, .inl rfl, hb⟩
  · simp only [Sw.res, h1]
    exact ⟨ao, cap, rfl, has_of_owns rfl hO, hb⟩

theorem specWords_has (s : ByteArray) (w : World) (hs : s.size ≤ 1073741823) :
    Calls Try.prog 7 #[.string s] w fun e w' => ∃ ao cap, e = .returned (.tuple #[.slice ao (Sw.res (Sw.bare s.data.toList)).1.length cap, .bool (Sw.res (Sw.bare s.data.toList)).2]) ∧ HasStrs w' ao (Sw.res (Sw.bare s.data.toList)).1 ∧ Below w.heap.size w w' := by
  refine (specWords_any s w hs).mono ?_
  rintro e w' ⟨hb, ⟨h1, ao, cap, rfl⟩ | ⟨ws, ao, cap, h1, rfl, hO⟩⟩
  · rw [← Sw.words_same] at h1
    simp only [Sw.res, h1]
    exact ⟨ao, cap, rfl, .inl rfl, hb⟩
  · rw [← Sw.words_same] at h1
    simp only [Sw.res, h1]
    exact ⟨ao, cap, rfl, has_of_owns rfl hO, hb⟩

set_option maxHeartbeats 400000 in
theorem skyWordsLaw_long (ao : Option Addr) (len cap : Nat) (w : World) (h : 1048576 < len) :
    Calls Try.prog 3 #[.slice ao len cap] w fun e w' => e = .returned (.bool true) ∧ Below w.heap.size w w' := by
  go_enter Try.func3, Try.ntmps3
  go_wp2_with fail
  go_ret
  exact ⟨rfl, Below.refl _ _⟩

theorem neq_self (b : Bool) : (b != b) = false := by cases b <;> rfl

set_option maxHeartbeats 1000000 in
theorem skyWordsLaw_short (ao : Option Addr) (len cap : Nat) (w : World) (hc : Code8 w ao len cap) (h : ¬ 1048576 < len) :
    Calls Try.prog 3 #[.slice ao len cap] w fun e w' => e = .returned (.bool true) ∧ Below w.heap.size w w' := by
  have hd : decide ((1048576 : Int) < (len : Int)) = false := by simp; omega
  go_enter Try.func3, Try.ntmps3
  go_wp2_with fail
  refine (drawWords_any ao len cap _ hc).mono ?_
  rintro e w1 ⟨s, rfl, hs, hb1⟩
  clear hc
  have HJ : Hid _ := Sw.res_joined s.data.toList s.data.toList
  have hgood := Sw.res_good s.data.toList
  go_wp2_with fail
  refine (skyWords_has s _ (by omega)).mono ?_
  rintro e w2 ⟨ao2, cap2, rfl, hH2, hb2⟩
  go_wp2_with fail
  refine (specWords_has s _ (by omega)).mono ?_
  rintro e w3 ⟨ao3, cap3, rfl, hH3, hb3⟩
  generalize Sw.res (Sw.bare s.data.toList) = R at *
  obtain ⟨ws, ok⟩ := R
  have hl12 : ws.length ≤ 12 := hgood.2
  have hl24 : Hid (∀ wd ∈ ws, wd.length ≤ 24) := fun wd hwd => (hgood.1 wd hwd).2.1
  clear hgood
  simp only at *
  have hne := neq_self ok
  have hH23 := has_mono2 hH2 hb3
  go_wp2_with fail
  refine (wm_same ao2 ao3 cap2 cap3 ws w3 (by omega) hH23 hH3).mono ?_
  rintro e w4 ⟨rfl, nd, rfl⟩
  have hH4 := has_mono2 hH23 (below_drewN' w3 nd)
  have hb4 : Below w.heap.size w (w3.drewN nd) := ((hb1.trans (hb2.mono hb1.size)).trans (hb3.mono (Nat.le_trans hb1.size hb2.size))).trans ((below_drewN' w3 nd).mono (Nat.le_trans hb1.size (Nat.le_trans hb2.size hb3.size)))
  obtain ⟨W4, hW4⟩ : ∃ W4, W4 = w3.drewN nd := ⟨_, rfl⟩
  rw [← hW4] at hH4 hb4 ⊢
  clear hH2 hH23 hH3 hb1 hb2 hb3 hW4
  go_wp2
  go_loop [8, 9] (fun a i => ∃ (k : Nat) (o : ByteArray), k ≤ ws.length ∧ i = .int .i64 k ∧ a = .string o ∧ Hid (o.data.toList = Sw.joined (ws.take k))) (fun _ i => ws.length - (intOf i).toNat)
  case atStart => exact ⟨0, ⟨#[]⟩, Nat.zero_le _, rfl, rfl, by show _ = _; simp [Sw.joined]⟩
  case round =>
    obtain ⟨k, o, hk, rfl, rfl, ho⟩ := hrel
    have hosz : o.size ≤ 300 := by
      have h1 := Sw.joined_len (ws.take k) (fun wd hwd => hl24.out wd (List.mem_of_mem_take hwd))
      have h2 : (ws.take k).length ≤ 12 := by simp; omega
      have h3 : o.size = o.data.toList.length := by rw [Array.length_toList]; rfl
      rw [h3, ho.out]; omega
    by_cases hlt : k < ws.length
    · have hcell : ∃ g, ao2 = some ⟨g, 0, none⟩ ∧ W4.cell? ⟨g, k, none⟩ = some (.string ⟨(ws[k]'hlt).toArray⟩) := by
        rcases hH4 with h | ⟨g, h1, h2⟩
        · rw [h] at hlt; simp at hlt
        · exact ⟨g, h1, h2 k hlt⟩
      obtain ⟨g, rfl, hcell⟩ := hcell
      have hwl : (ws[k]'hlt).length ≤ 24 := hl24.out _ (List.getElem_mem hlt)
      have HN : Hid (ws.take (k + 1) = ws.take k ++ [ws[k]]) := List.take_succ_eq_append_getElem hlt
      obtain ⟨wd, hwd⟩ : ∃ wd, wd = ws[k]'hlt := ⟨_, rfl⟩
      rw [← hwd] at hcell hwl HN
      have hadd1 := fun W => run_string_add_sum (P := Try.prog) W o ⟨#[32]⟩ (by have : (⟨#[32]⟩ : ByteArray).size = 1 := rfl
                                                                                omega)
      obtain ⟨o1, ho1⟩ : ∃ o1, o1 = o ++ ⟨#[32]⟩ := ⟨_, rfl⟩
      have hs1 : o1.size ≤ 301 := by have : (⟨#[32]⟩ : ByteArray).size = 1 := rfl
                                     rw [ho1, ByteArray.size_append]; omega
      rw [← ho1] at hadd1
      have hadd2 := fun W => run_string_add_sum (P := Try.prog) W o1 ⟨wd.toArray⟩ (by have := size_list wd
                                                                                      omega)
      obtain ⟨o2, ho2⟩ : ∃ o2, o2 = o1 ++ ⟨wd.toArray⟩ := ⟨_, rfl⟩
      rw [← ho2] at hadd2
      have HO : Hid (o2.data.toList = Sw.joined (ws.take (k + 1))) := by
        show _ = _
        rw [HN.out, Sw.joined_snoc, ← ho.out, ho2, ho1, ByteArray.data_append, ByteArray.data_append]
        simp
      clear hH4 HN hwd ho1 ho2 ho
      go_wp2
      go_round
      case rel => exact ⟨k + 1, o2, by omega, by go_num, rfl, HO⟩
      case measure => simp [intOf]; omega
    · have hk2 : k = ws.length := by omega
      have ho' : Hid (o.data.toList = Sw.joined ws) := by have h1 := ho.out; rw [List.take_of_length_le (by omega)] at h1; exact h1
      have hadd1 := fun W => run_string_add_sum (P := Try.prog) W o ⟨#[32, 35, 32]⟩ (by have : (⟨#[32, 35, 32]⟩ : ByteArray).size = 3 := rfl
                                                                                        omega)
      obtain ⟨o1, ho1⟩ : ∃ o1, o1 = o ++ ⟨#[32, 35, 32]⟩ := ⟨_, rfl⟩
      have hs1 : o1.size ≤ 303 := by have : (⟨#[32, 35, 32]⟩ : ByteArray).size = 3 := rfl
                                     rw [ho1, ByteArray.size_append]; omega
      rw [← ho1] at hadd1
      have hadd2 := fun W => run_string_add_sum (P := Try.prog) W o1 s (by omega)
      obtain ⟨o2, ho2⟩ : ∃ o2, o2 = o1 ++ s := ⟨_, rfl⟩
      rw [← ho2] at hadd2
      have hs2 : o2.size ≤ 1000 := by rw [ho2, ByteArray.size_append]; omega
      have HO : Hid (Sw.res (Sw.bare o2.data.toList) = (ws, true)) := by
        show _ = _
        have e : o2.data.toList = Sw.joined ws ++ [32, 35, 32] ++ s.data.toList := by
          rw [← ho'.out, ho2, ho1, ByteArray.data_append, ByteArray.data_append]; simp
        rw [e]
        exact HJ.out
      clear ho1 ho2 ho ho' hk2
      go_wp2_with fail
      refine (skyWords_has o2 _ (by omega)).mono ?_
      rw [HO.out]
      rintro e w5 ⟨ao5, cap5, rfl, hH5, hb5⟩
      have hH45 := has_mono2 hH4 hb5
      simp only at hH5 ⊢
      go_wp2_with fail
      refine (wm_same ao5 ao2 cap5 cap2 ws w5 (by omega) hH5 hH45).mono ?_
      rintro e w6 ⟨rfl, nd2, rfl⟩
      have hb6 : Below w.heap.size w (w5.drewN nd2) := (hb4.trans (hb5.mono hb4.size)).trans ((below_drewN' w5 nd2).mono (Nat.le_trans hb4.size hb5.size))
      go_wp2
      go_ret
      exact ⟨rfl, hb6⟩

theorem skyWordsLaw_any (ao : Option Addr) (len cap : Nat) (w : World) (hc : Code8 w ao len cap) :
    Calls Try.prog 3 #[.slice ao len cap] w fun e w' => e = .returned (.bool true) ∧ Below w.heap.size w w' := by
  by_cases h : 1048576 < len
  · exact skyWordsLaw_long ao len cap w h
  · exact skyWordsLaw_short ao len cap w hc h

end Go.Proofs.Ytlkalmpmfblnfaa
