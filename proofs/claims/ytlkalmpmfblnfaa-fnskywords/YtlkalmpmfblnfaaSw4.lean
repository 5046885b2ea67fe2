/- DERIVED. spec.l1Bare, spec.l1In, spec.SkyWords: their walks. -/
import Derived.Test.YtlkalmpmfblnfaaSw3
namespace Go.Proofs.Ytlkalmpmfblnfaa
open Go.RowKit
set_option linter.unusedSimpArgs false
set_option linter.unusedVariables false

theorem specIn_yes (n : Int) (w : World) (h1 : 33 ≤ n) (h2 : n ≤ 126) :
    Calls Try.prog 19 #[.int .i64 n, .int .i64 33, .int .i64 126] w fun e w' => e = .returned (.bool true) ∧ w' = w := by
  go_enter Try.func19, Try.ntmps19
  go_wp2
  go_ret
  exact ⟨by simp [h2], rfl⟩

theorem specIn_no (n : Int) (w : World) (h : n < 33 ∨ 126 < n) :
    Calls Try.prog 19 #[.int .i64 n, .int .i64 33, .int .i64 126] w fun e w' => e = .returned (.bool false) ∧ w' = w := by
  rcases h with h | h
  · have h1 : ¬ 33 ≤ n := by omega
    go_enter Try.func19, Try.ntmps19
    go_wp2
    go_ret
    exact ⟨by simp [h], rfl⟩
  · have h1 : 33 ≤ n := by omega
    have h2 : ¬ n ≤ 126 := by omega
    go_enter Try.func19, Try.ntmps19
    go_wp2
    go_ret
    exact ⟨by simp [h1, h2], rfl⟩

theorem not35 {s : ByteArray} {k : Nat} (h : ∀ j, j < k → s.data.toList[j]? ≠ some 35) (hk : k < s.size) (hc : ¬ s[k] = 35) : ∀ j, j < k + 1 → s.data.toList[j]? ≠ some 35 := by
  intro j hj
  by_cases e : j = k
  · subst e
    rw [List.getElem?_eq_getElem (by simpa using hk)]
    intro h2
    exact hc (Option.some.inj h2)
  · exact h j (by omega)

theorem is35 {s : ByteArray} {k : Nat} (hk : k < s.size) (hc : s[k] = 35) : s.data.toList[k]? = some 35 := by
  rw [List.getElem?_eq_getElem (by simpa using hk)]
  exact congrArg some hc

set_option maxHeartbeats 400000 in
theorem specBare_any (s : ByteArray) (w : World) (hs : s.size ≤ 1073741824) :
    Calls Try.prog 18 #[.string s] w fun e w' => ∃ b, e = .returned (.string b) ∧ b.data.toList = Sw.bare s.data.toList ∧ w' = w := by
  go_enter Try.func18, Try.ntmps18
  go_wp2
  go_loop [3] (fun i => ∃ k : Nat, k ≤ s.size ∧ i = .int .i64 k ∧ Hid (∀ j, j < k → s.data.toList[j]? ≠ some 35)) (fun i => s.size - (intOf i).toNat)
  case atStart => exact ⟨0, Nat.zero_le _, rfl, fun j hj => by omega⟩
  case round =>
    obtain ⟨k, hk, rfl, hno⟩ := hrel
    by_cases hlt : k < s.size
    · by_cases hc : s[k] = 35
      · have hb : Hid _ := (bare_take _ k (is35 hlt hc) hno.out).symm
        go_wp2
        go_ret
        exact ⟨_, rfl, by rw [← hb.out]; simp [Lib.extract_data], rfl⟩
      · have hc2 : ((s[k].toNat : Int) == 35) = false := by
          simp only [beq_eq_false_iff_ne, ne_eq]
          intro e
          exact hc (UInt8.toNat_inj.1 (by have : s[k].toNat = 35 := by omega
                                          rw [this]; rfl))
        have hN : Hid _ := not35 hno.out hlt hc
        clear hc
        go_wp2
        go_round
        case rel => exact ⟨k + 1, by omega, by go_num, hN⟩
        case measure => simp [intOf]; omega
    · have hb : Hid _ := (bare_none s.data.toList (fun j => by
        by_cases hj : j < k
        · exact hno.out j hj
        · rw [List.getElem?_eq_none (by simp; omega)]; simp)).symm
      go_wp2
      go_ret
      exact ⟨_, rfl, hb.out, rfl⟩

end Go.Proofs.Ytlkalmpmfblnfaa
