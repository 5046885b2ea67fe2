/- DERIVED. spec.l2Point, spec.l2AirwaysOk: their walks. -/
import Derived.Test.YthkpjljhjdjbfaaDoorSkyS1
namespace Go.Proofs.YthkpjljhjdjbfaaDoor
open Go.RowKit
set_option linter.unusedSimpArgs false
set_option linter.unusedVariables false

theorem toList_inj {a b : ByteArray} (h : a.toList = b.toList) : a = b := by
  rw [ByteArray.toList_eq, ByteArray.toList_eq] at h
  exact ByteArray.ext (Array.toList_inj.1 h)

theorem str_eq_yes {a b : ByteArray} (h : a = b) : (a.toList == b.toList) = true := by rw [h]; simp
theorem str_eq_no {a b : ByteArray} (h : a ≠ b) : (a.toList == b.toList) = false := by
  rw [beq_eq_false_iff_ne]; exact fun e => h (toList_inj e)

/-- The place of a point among others, -1 if it is not there. -/
def pIdx (ps : List DSkyPoint) (n : ByteArray) : Int := if ps.findIdx (fun p => p.1.toList == n.toList) < ps.length then (ps.findIdx (fun p => p.1.toList == n.toList) : Int) else -1

theorem pIdx_has {ps : List DSkyPoint} {n : ByteArray} : HasPoint ps n ↔ 0 ≤ pIdx ps n := by
  unfold pIdx HasPoint
  constructor
  · rintro ⟨i, hi, h⟩
    rw [if_pos (List.findIdx_lt_length.2 ⟨ps[i], List.getElem_mem hi, str_eq_yes h⟩)]
    omega
  · intro h
    split at h
    · rename_i hlt
      exact ⟨_, hlt, toList_inj (by have := List.findIdx_getElem (w := hlt); simpa using this)⟩
    · omega

set_option maxHeartbeats 400000 in
theorem specPoint_any (ao : Option Addr) (cap : Nat) (ps : List DSkyPoint) (n : ByteArray) (w : World) (hn : ps.length ≤ 1000) (h : SliceAt vSkyPoint (old w) w ao cap ps) :
    Calls Tryd.prog 56 #[.slice ao ps.length cap, .string n] w fun e w' => e = .returned (.int .i64 (pIdx ps n)) ∧ w' = w := by
  go_enter Tryd.func56, Tryd.ntmps56
  go_wp2
  go_loop [5] (fun i => ∃ k : Nat, k ≤ ps.length ∧ i = .int .i64 k ∧ Hid (∀ j (hj : j < ps.length), j < k → ((ps[j]'hj).1.toList == n.toList) = false)) (fun i => ps.length - (intOf i).toNat)
  case atStart => exact ⟨0, Nat.zero_le _, rfl, fun j _ hj => by omega⟩
  case round =>
    obtain ⟨k, hk, rfl, hno⟩ := hrel
    by_cases hlt : k < ps.length
    · obtain ⟨b, off, rfl, hok, c0, _⟩ := elem_SkyPoint h hlt
      by_cases he : ((ps[k]'hlt).1.toList == n.toList) = true
      · have HP : Hid (pIdx ps n = k) := by
          have h1 : ps.findIdx (fun p => p.1.toList == n.toList) = k := (List.findIdx_eq hlt).2 ⟨he, fun j hj => by simpa using hno.out j (by omega) hj⟩
          show _ = _
          unfold pIdx
          rw [h1, if_pos hlt]
        clear hno
        go_wp2
        go_ret
        exact ⟨by rw [HP.out]; rfl, rfl⟩
      · have he : ((ps[k]'hlt).1.toList == n.toList) = false := by simpa using he
        have HN : Hid (∀ j (hj : j < ps.length), j < k + 1 → ((ps[j]'hj).1.toList == n.toList) = false) := fun j hj h1 => by
          by_cases e : j = k
          · subst e; exact he
          · exact hno.out j hj (by omega)
        clear hno
        go_wp2
        go_round
        case rel => exact ⟨k + 1, by omega, by go_num, HN⟩
        case measure => simp [intOf]; omega
    · have HP : Hid (pIdx ps n = -1) := by
        show _ = _
        unfold pIdx
        rw [if_neg]
        intro h1
        have h2 := List.findIdx_getElem (w := h1)
        have h3 := hno.out _ h1 (by omega)
        simp at h2 h3
        exact h3 h2
      clear hno
      go_wp2
      go_ret
      exact ⟨by rw [HP.out]; rfl, rfl⟩

end Go.Proofs.YthkpjljhjdjbfaaDoor
