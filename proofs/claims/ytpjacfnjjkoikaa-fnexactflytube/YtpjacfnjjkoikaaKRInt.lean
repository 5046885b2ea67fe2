/- DERIVED. A result that is a list of int: what it owns; the laws' own eqIntS, markIntS, heldIntS over it. -/
import Derived.Test.YtpjacfnjjkoikaaRows
import Derived.WalkKit
import Derived.WalkSpells
import Derived.WalkLawsBesides
import Derived.Test.YtpjacfnjjkoikaaKOr0
import Derived.Deep.QuietTactic
import Derived.BigQuiet
import Derived.Deep.RegionWith
import Derived.Test.YtpjacfnjjkoikaaKRIntD
namespace Go.Proofs.Ytpjacfnjjkoikaa
open Go.RowKit
set_option linter.unusedSimpArgs false
set_option linter.unusedVariables false

set_option maxHeartbeats 400000 in
theorem eqInt_none (ao bo : Option Addr) (ca cb : Nat) (w : World) :
    Calls Try.prog 20 #[.slice ao 0 ca, .slice bo 0 cb] w fun e w' => e = .returned (.bool true) ∧ w' = w := by
  go_enter Try.func20, Try.ntmps20
  go_wp2
  go_loop [5] (fun i => i = .int .i64 0) (fun _ => 0)
  case atStart => exact rfl
  case round =>
    subst hrel
    go_wp2
    go_ret
    exact ⟨rfl, rfl⟩

set_option maxHeartbeats 400000 in
theorem eqIntRS (ao bo : Option Addr) (ca cb : Nat) (l : List Int) (w : World) (hn : l.length ≤ maxLen) (ha : AtInt w ao l) (hb : AtInt w bo l) :
    Calls Try.prog 20 #[.slice ao l.length ca, .slice bo l.length cb] w fun e w' => e = .returned (.bool true) ∧ Below w.heap.size w w' := by
  unfold maxLen at hn
  rcases ha with rfl | ⟨g, rfl, hga, hca⟩
  · exact (eqInt_none ao bo ca cb w).mono (fun e w' h => ⟨h.1, by rw [h.2]; exact Below.refl _ _⟩)
  · rcases hb with rfl | ⟨g2, rfl, hgb, hcb⟩
    · exact (eqInt_none _ bo ca cb w).mono (fun e w' h => ⟨h.1, by rw [h.2]; exact Below.refl _ _⟩)
    · go_enter Try.func20, Try.ntmps20
      go_wp2
      go_loopw [5] (fun i wr => ∃ k : Nat, k ≤ l.length ∧ i = .int .i64 k ∧ ∃ n, wr = w.drewN n) (fun i _ => l.length - (intOf i).toNat)
      case atStart => exact ⟨0, Nat.zero_le _, rfl, 0, rfl⟩
      case round =>
        obtain ⟨k, hk, rfl, n, rfl⟩ := hrel
        by_cases hlt : k < l.length
        · have c1 := hca k hlt
          have c2 := hcb k hlt
          clear hca hcb
          go_wp2
          go_quiet (fail)
          go_wp2
          go_roundw
          case rel => exact ⟨k + 1, by omega, by go_num, _, rfl⟩
          case measure => simp [intOf]; omega
        · go_wp2
          go_ret
          exact ⟨rfl, below_drewN (Below.refl _ _) _⟩

/-- The marks from number k on. -/
def marksInt (k n : Nat) : List Int := (List.range n).map fun i => ((k + i : Nat) : Int)
theorem marksInt_len (k n : Nat) : (marksInt k n).length = n := by simp [marksInt]
theorem marksInt_succ (k n : Nat) : marksInt k (n + 1) = marksInt k n ++ [((k + n : Nat) : Int)] := by simp [marksInt, List.range_succ]
theorem markInt_set (k j : Nat) (l : List Int) (hj : j < l.length) : (valsInt (marksInt k j ++ l.drop j)).set j (.int .i64 ((k + j : Nat) : Int)) = valsInt (marksInt k (j + 1) ++ l.drop (j + 1)) := by
  have e1 : l.drop j = l[j] :: l.drop (j + 1) := List.drop_eq_getElem_cons hj
  have hl : (valsInt (marksInt k j)).length = j := by rw [valsInt_len, marksInt_len]
  have e2 : valsInt (l[j] :: l.drop (j + 1)) = .int .i64 (l[j]) :: valsInt (l.drop (j + 1)) := rfl
  have e3 : valsInt [((k + j : Nat) : Int)] = [.int .i64 ((k + j : Nat) : Int)] := rfl
  rw [e1, valsInt_app, marksInt_succ, valsInt_app, valsInt_app, List.set_append_right _ _ (by omega), hl, Nat.sub_self, e2, List.set_cons_zero, e3]
  simp

set_option maxHeartbeats 400000 in
theorem markInt_none (ao : Option Addr) (ca : Nat) (k : Int) (w : World) :
    Calls Try.prog 21 #[.slice ao 0 ca, .int .i64 k] w fun e w' => e = .returned (.int .i64 k) ∧ w' = w := by
  go_enter Try.func21, Try.ntmps21
  go_wp2
  go_loop [1, 5] (fun a i => a = .int .i64 k ∧ i = .int .i64 0) (fun _ _ => 0)
  case atStart => exact ⟨rfl, rfl⟩
  case round =>
    obtain ⟨rfl, rfl⟩ := hrel
    go_wp2
    go_ret
    exact ⟨rfl, rfl⟩

set_option maxHeartbeats 400000 in
theorem markInt_g (g cap B k : Nat) (l : List Int) (w : World) (hn : l.length ≤ 1000000000) (hk : k ≤ 1000) (hB : B ≤ w.heap.size)
    (hown : w.ownsRow B 3 1 (.slice (some ⟨g, 0, none⟩) l.length cap) l.length (valsInt l)) :
    Calls Try.prog 21 #[.slice (some ⟨g, 0, none⟩) l.length cap, .int .i64 k] w fun e w' => e = .returned (.int .i64 ((k + l.length : Nat) : Int)) ∧ Below B w w' ∧
      w'.ownsRow B 3 1 (.slice (some ⟨g, 0, none⟩) l.length cap) l.length (valsInt (marksInt k l.length)) := by
  go_enter Try.func21, Try.ntmps21
  go_wp2
  go_loopw [1, 5] (fun a i wr => ∃ j : Nat, j ≤ l.length ∧ i = .int .i64 j ∧ a = .int .i64 ((k + j : Nat) : Int) ∧ Below B w wr ∧
     wr.ownsRow B 3 1 (.slice (some ⟨g, 0, none⟩) l.length cap) l.length (valsInt (marksInt k j ++ l.drop j))) (fun _ i _ => l.length - (intOf i).toNat)
  case atStart => exact ⟨0, Nat.zero_le _, rfl, rfl, Below.refl _ _, by simpa [marksInt] using hown⟩
  case round =>
    obtain ⟨j, hj, rfl, rfl, hbel, hO⟩ := hrel
    by_cases hlt : j < l.length
    · have hsz := hbel.size
      have hgB : B ≤ g := own_ge hO g rfl
      obtain ⟨v0, hcell⟩ : ∃ v, wr.cell? ⟨g, j, none⟩ = some v := ⟨_, by rw [hO.cellAt j (by omega)]; exact List.getElem?_eq_getElem (by rw [valsInt_len, List.length_append, marksInt_len, List.length_drop]; omega)⟩
      have hfr : wr.frozen? ⟨g, j, none⟩ = false := hO.frozenAt j
      have hst := (hO.stored j (.int .i64 ((k + j : Nat) : Int))).1
      rw [markInt_set k j l hlt] at hst
      have hB2 : Below B w (wr.setCell ⟨g, j, none⟩ (.int .i64 ((k + j : Nat) : Int))) := hbel.setCell hgB _
      rw [show ((k + j : Nat) : Int) = (k : Int) + (j : Int) from by omega] at hst hB2
      have HST : Hid _ := hst
      have HB2 : Hid _ := hB2
      clear hO hbel hown hst hB2
      go_wp2
      go_roundw
      case rel => exact ⟨j + 1, by omega, by go_num, by go_num, HB2.out, HST.out⟩
      case measure => simp [intOf]; omega
    · have hj2 : j = l.length := by omega
      subst hj2
      have hO2 : wr.ownsRow B 3 1 (.slice (some ⟨g, 0, none⟩) l.length cap) l.length (valsInt (marksInt k l.length)) := by simpa using hO
      have HO2 : Hid _ := hO2
      clear hO hO2
      go_wp2
      go_ret
      exact ⟨rfl, hbel, HO2.out⟩

theorem markIntR (ao : Option Addr) (cap B k : Nat) (l : List Int) (w : World) (hn : l.length ≤ 1000000000) (hk : k ≤ 1000) (hB : B ≤ w.heap.size)
    (hown : w.ownsRow B 3 1 (.slice ao l.length cap) l.length (valsInt l)) :
    Calls Try.prog 21 #[.slice ao l.length cap, .int .i64 k] w fun e w' => e = .returned (.int .i64 ((k + l.length : Nat) : Int)) ∧ Below B w w' ∧ AtInt w' ao (marksInt k l.length) := by
  cases l with
  | nil =>
    refine (markInt_none ao cap k w).mono fun e w' h => ⟨by rw [h.1]; simp, by rw [h.2]; exact Below.refl _ _, .inl rfl⟩
  | cons x l =>
    obtain ⟨g, cap', hv⟩ := owns_pos (n := l.length) hown
    have hao : ao = some ⟨g, 0, none⟩ := by cases hv; rfl
    subst hao
    exact (markInt_g g cap B k (x :: l) w hn hk hB hown).mono fun e w' h => ⟨h.1, h.2.1, atInt_owns (by rw [marksInt_len]) h.2.2⟩

set_option maxHeartbeats 400000 in
theorem heldInt_none (ao : Option Addr) (ca : Nat) (k : Int) (w : World) :
    Calls Try.prog 22 #[.slice ao 0 ca, .int .i64 k] w fun e w' => e = .returned (.int .i64 k) ∧ w' = w := by
  go_enter Try.func22, Try.ntmps22
  go_wp2
  go_loop [1, 5] (fun a i => a = .int .i64 k ∧ i = .int .i64 0) (fun _ _ => 0)
  case atStart => exact ⟨rfl, rfl⟩
  case round =>
    obtain ⟨rfl, rfl⟩ := hrel
    go_wp2
    go_ret
    exact ⟨rfl, rfl⟩

set_option maxHeartbeats 400000 in
theorem heldInt_g (g cap k n : Nat) (w : World) (hn : n ≤ 1000000000) (hk : k ≤ 1000)
    (hc : ∀ i, i < n → w.cell? ⟨g, i, none⟩ = some (.int .i64 ((k + i : Nat) : Int))) (hg : g < w.heap.size) :
    Calls Try.prog 22 #[.slice (some ⟨g, 0, none⟩) n cap, .int .i64 k] w fun e w' => e = .returned (.int .i64 ((k + n : Nat) : Int)) ∧ Below w.heap.size w w' := by
  go_enter Try.func22, Try.ntmps22
  go_wp2
  go_loopw [1, 5] (fun a i wr => ∃ j : Nat, j ≤ n ∧ i = .int .i64 j ∧ a = .int .i64 ((k + j : Nat) : Int) ∧ Below w.heap.size w wr) (fun _ i _ => n - (intOf i).toNat)
  case atStart => exact ⟨0, Nat.zero_le _, rfl, rfl, Below.refl _ _⟩
  case round =>
    obtain ⟨j, hj, rfl, rfl, hbel⟩ := hrel
    by_cases hlt : j < n
    · have hsz := hbel.size
      have c1 : wr.cell? ⟨g, j, none⟩ = some (.int .i64 ((k : Int) + (j : Int))) := by have h := (hbel.cell (p := ⟨g, j, none⟩) (by exact hg)).trans (hc j hlt); rwa [show ((k + j : Nat) : Int) = (k : Int) + (j : Int) from by omega] at h
      have hg1 : g < wr.heap.size := by omega
      go_wp2
      go_roundw
      case rel => exact ⟨j + 1, by omega, by go_num, by go_num, hbel⟩
      case measure => simp [intOf]; omega
    · have hj2 : j = n := by omega
      subst hj2
      go_wp2
      go_ret
      exact ⟨rfl, hbel⟩

theorem heldIntR (ao : Option Addr) (cap k n : Nat) (w : World) (hn : n ≤ 1000000000) (hk : k ≤ 1000) (h : AtInt w ao (marksInt k n)) :
    Calls Try.prog 22 #[.slice ao n cap, .int .i64 k] w fun e w' => e = .returned (.int .i64 ((k + n : Nat) : Int)) ∧ Below w.heap.size w w' := by
  rcases h with h0 | ⟨g, rfl, hg, hc⟩
  · have : n = 0 := by have := congrArg List.length h0; simpa [marksInt_len] using this
    subst this
    refine (heldInt_none ao cap k w).mono fun e w' h => ⟨by rw [h.1]; simp, by rw [h.2]; exact Below.refl _ _⟩
  · refine heldInt_g g cap k n w hn hk (fun i hi => ?_) hg
    rw [hc i (by rw [marksInt_len]; exact hi)]
    simp [marksInt]

end Go.Proofs.Ytpjacfnjjkoikaa
