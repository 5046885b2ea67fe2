/- DERIVED. impl.FlyWhere, spec.FlyWhere: their walks. -/
import Derived.Test.YtfjeiegoblaadaaFwD
namespace Go.Proofs.Ytfjeiegoblaadaa
namespace Fly
open Go.RowKit
set_option linter.unusedSimpArgs false
set_option linter.unusedVariables false

set_option maxHeartbeats 2000000 in
theorem iWhere (f : List Int) (t : Int) (ao : Option Addr) (cap : Nat) (w : World) (h : SliceAt vInt (old w) w ao cap f) :
    Calls Try.prog 20 #[.slice ao f.length cap, .int .i64 t] w fun e w' => e = .returned (.tuple #[.int .i64 (whereOf f t).1, .bool (whereOf f t).2]) ∧ Below w.heap.size w w' := by
  have hcl := h.1
  have hcm : cap ≤ 9223372036854775807 := h.2.1
  have hwr : IntKind.i64.wrap ((f.length : Int) - 1) = (f.length : Int) - 1 := by rw [IntKind.wrap_i64] <;> omega
  go_enter Try.func20, Try.ntmps20
  go_wp2
  go_loopw [10] (fun i wr => ∃ k : Nat, k ≤ f.length ∧ i = .int .i64 k ∧ Hid (∀ j, j < k → ¬ InStep f t j) ∧ Below w.heap.size w wr) (fun i _ => f.length - (intOf i).toNat)
  case atStart => exact ⟨0, Nat.zero_le _, rfl, fun j hj => by omega, Below.refl _ _⟩
  case round =>
    obtain ⟨k, hk, rfl, hpre, hB⟩ := hrel
    by_cases hlt : k + 1 < f.length
    · have hlt0 : k < f.length := by omega
      obtain ⟨g, off, rfl, hok, c0, _⟩ := elem_Int h hlt0
      obtain ⟨g', off', hbo, _, d0, _⟩ := elem_Int h hlt
      cases hbo
      have p0 := (hB.cell (p := ⟨g, off + k, none⟩) hok).trans c0
      have p1 := (hB.cell (p := ⟨g, off + (k + 1), none⟩) hok).trans d0
      clear c0 d0
      have HY : Hid (f[k] ≤ t → t < f[k + 1] → whereOf f t = ((k : Int), true)) := fun h1 h2 => where_hit ⟨hlt, h1, h2⟩ hpre.out
      have HN : Hid (¬ (f[k] ≤ t ∧ t < f[k + 1]) → ∀ j, j < k + 1 → ¬ InStep f t j) := fun h1 j hj => by
        by_cases e : j = k
        · subst e; rintro ⟨_, h2⟩; exact h1 h2
        · exact hpre.out j (by omega)
      have hkI : (k : Int) < (f.length : Int) - 1 := by omega
      have hkI2 : (k : Int) + 1 < (f.length : Int) := by omega
      generalize f[k]'hlt0 = a at *
      generalize f[k + 1]'hlt = b at *
      clear hpre h
      by_cases h1 : a ≤ t
      · by_cases h2 : t < b
        · have HR : Hid (whereOf f t = ((k : Int), true)) := HY.out h1 h2
          clear HY HN
          go_wp2
          refine bodyPost_ret (v := .tuple #[.int .i64 (k : Int), .bool true]) (by simp [results, Try.results20, go_sem]) rfl ⟨by rw [HR.out], hB⟩
        · have HN1 : Hid (∀ j, j < k + 1 → ¬ InStep f t j) := HN.out (fun h => h2 h.2)
          clear HY HN
          go_wp2
          go_roundw
          case rel => exact ⟨k + 1, by omega, by go_num, HN1, hB⟩
          case measure => simp [intOf]; omega
      · have HN1 : Hid (∀ j, j < k + 1 → ¬ InStep f t j) := HN.out (fun h => h1 h.1)
        clear HY HN
        go_wp2
        go_roundw
        case rel => exact ⟨k + 1, by omega, by go_num, HN1, hB⟩
        case measure => simp [intOf]; omega
    · have hkI : ¬ (k : Int) < (f.length : Int) - 1 := by omega
      have HR : Hid (whereOf f t = (0, false)) := where_none fun j hj => hpre.out j (by omega)
      clear hpre h
      go_wp2
      refine bodyPost_ret (v := .tuple #[.int .i64 0, .bool false]) (by simp [results, Try.results20, go_sem]) rfl ⟨by rw [HR.out], hB⟩

set_option maxHeartbeats 2000000 in
theorem sWhere (f : List Int) (t : Int) (ao : Option Addr) (cap : Nat) (w : World) (h : SliceAt vInt (old w) w ao cap f) :
    Calls Try.prog 19 #[.slice ao f.length cap, .int .i64 t] w fun e w' => e = .returned (.tuple #[.int .i64 (whereOf f t).1, .bool (whereOf f t).2]) ∧ Below w.heap.size w w' := by
  have hcl := h.1
  have hcm : cap ≤ 9223372036854775807 := h.2.1
  go_enter Try.func19, Try.ntmps19
  go_wp2
  go_loopw [6] (fun i wr => ∃ k : Nat, k ≤ f.length ∧ i = .int .i64 ((k : Int) + 1) ∧ Hid (∀ j, j < k → ¬ InStep f t j) ∧ Below w.heap.size w wr) (fun i _ => f.length + 1 - (intOf i).toNat)
  case atStart => exact ⟨0, Nat.zero_le _, rfl, fun j hj => by omega, Below.refl _ _⟩
  case round =>
    obtain ⟨k, hk, rfl, hpre, hB⟩ := hrel
    by_cases hlt : k + 1 < f.length
    · have hlt0 : k < f.length := by omega
      obtain ⟨g, off, rfl, hok, c0, _⟩ := elem_Int h hlt0
      obtain ⟨g', off', hbo, _, d0, _⟩ := elem_Int h hlt
      cases hbo
      have p0 := (hB.cell (p := ⟨g, off + k, none⟩) hok).trans c0
      have p1 := (hB.cell (p := ⟨g, off + (k + 1), none⟩) hok).trans d0
      clear c0 d0
      have HY : Hid (f[k] ≤ t → t < f[k + 1] → whereOf f t = ((k : Int), true)) := fun h1 h2 => where_hit ⟨hlt, h1, h2⟩ hpre.out
      have HN : Hid (¬ (f[k] ≤ t ∧ t < f[k + 1]) → ∀ j, j < k + 1 → ¬ InStep f t j) := fun h1 j hj => by
        by_cases e : j = k
        · subst e; rintro ⟨_, h2⟩; exact h1 h2
        · exact hpre.out j (by omega)
      have hkI : (k : Int) < (f.length : Int) := by omega
      have hkI2 : (k : Int) + 1 < (f.length : Int) := by omega
      have hkN : ((k : Int) + 1).toNat = k + 1 := by omega
      generalize f[k]'hlt0 = a at *
      generalize f[k + 1]'hlt = b at *
      clear hpre h
      by_cases h1 : a ≤ t
      · by_cases h2 : t < b
        · have HR : Hid (whereOf f t = ((k : Int), true)) := HY.out h1 h2
          clear HY HN
          go_wp2
          refine bodyPost_ret (v := .tuple #[.int .i64 (k : Int), .bool true]) (by simp [results, Try.results19, go_sem]) rfl ⟨by rw [HR.out], hB⟩
        · have HN1 : Hid (∀ j, j < k + 1 → ¬ InStep f t j) := HN.out (fun h => h2 h.2)
          clear HY HN
          go_wp2
          go_roundw
          case rel => exact ⟨k + 1, by omega, by go_num, HN1, hB⟩
          case measure => simp [intOf]; omega
      · have HN1 : Hid (∀ j, j < k + 1 → ¬ InStep f t j) := HN.out (fun h => h1 h.1)
        clear HY HN
        go_wp2
        go_roundw
        case rel => exact ⟨k + 1, by omega, by go_num, HN1, hB⟩
        case measure => simp [intOf]; omega
    · have hkI : ¬ (k : Int) + 1 < (f.length : Int) := by omega
      have HR : Hid (whereOf f t = (0, false)) := where_none fun j hj => hpre.out j (by omega)
      clear hpre h
      go_wp2
      refine bodyPost_ret (v := .tuple #[.int .i64 0, .bool false]) (by simp [results, Try.results19, go_sem]) rfl ⟨by rw [HR.out], hB⟩

end Fly
end Go.Proofs.Ytfjeiegoblaadaa
