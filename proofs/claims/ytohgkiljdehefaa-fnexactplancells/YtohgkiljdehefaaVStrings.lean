/- DERIVED. The laws' own functions over slices of texts. -/
import Derived.Test.YtohgkiljdehefaaRows
import Derived.Test.YtohgkiljdehefaaVw1
import Derived.Deep.QuietTactic
import Derived.BigQuiet
namespace Go.Proofs.Ytohgkiljdehefaa
open Go.RowKit
set_option linter.unusedSimpArgs false
set_option linter.unusedVariables false

def wStringS (l : List ByteArray) : Nat := l.length + (l.map ByteArray.size).sum

theorem elem_String {ok : Nat → Prop} {w : World} {ao : Option Addr} {cap : Nat} {l : List ByteArray} (h : SliceAt vStr ok w ao cap l) {i : Nat} (hi : i < l.length) :
    ∃ b off, ao = some ⟨b, off, none⟩ ∧ ok b ∧ w.cell? ⟨b, off + i, none⟩ = some (.string (l[i]'hi)) ∧ (l[i]'hi).size ≤ maxLen := by
  obtain ⟨b, off, c, h1, h2, ⟨rfl, p⟩, h4⟩ := h.elem hi
  exact ⟨b, off, h1, h2, by have := h4 0 (by decide); simpa [vStr] using this, p⟩

set_option maxHeartbeats 400000 in
theorem szStringS_any (ao : Option Addr) (cap : Nat) (l : List ByteArray) (L : Int) (w : World) (h0 : 0 ≤ L) (h1 : L ≤ 1048576) (h : SliceAt vStr (old w) w ao cap l) :
    Calls Try.prog 24 #[.slice ao l.length cap, .int .i64 L] w fun e w' => e = .returned (.int .i64 (szR L (wStringS l))) ∧ Below w.heap.size w w' := by
  have hcl := h.1
  have hcm : cap ≤ 9223372036854775807 := h.2.1
  by_cases hn : (l.length : Int) ≤ L
  · have hd : decide (L - (l.length : Int) < 0) = false := by simp; omega
    go_enter Try.func24, Try.ntmps24
    go_wp2
    go_loopw [1, 5] (fun a i wr => ∃ (k s : Nat), k ≤ l.length ∧ i = .int .i64 k ∧ a = .int .i64 (L - l.length - s) ∧ 0 ≤ L - l.length - s ∧ Hid (s = ((l.take k).map ByteArray.size).sum) ∧ Below w.heap.size w wr) (fun _ i _ => l.length - (intOf i).toNat)
    case atStart => exact ⟨0, 0, Nat.zero_le _, rfl, by simp, by simp; omega, by show _ = _; simp, Below.refl _ _⟩
    case round =>
      obtain ⟨k, s, hk, rfl, rfl, hpos, hs, hb⟩ := hrel
      by_cases hlt : k < l.length
      · obtain ⟨b, off, rfl, hok, c0, p0⟩ := elem_String h hlt
        have d0 := (hb.cell (p := ⟨b, off + k, none⟩) hok).trans c0
        have HS : Hid _ := sum_take ByteArray.size l k hlt
        have HT : Hid _ := sum_le ByteArray.size l (k + 1)
        generalize l[k] = x at *
        unfold maxLen at p0
        clear c0
        by_cases hw : (x.size : Int) ≤ L - l.length - s
        · have hs2 : Hid (s + x.size = ((l.take (k + 1)).map ByteArray.size).sum) := by have h3 := HS.out; have h4 := hs.out; show _ = _; omega
          go_wp2
          go_roundw
          case rel => exact ⟨k + 1, s + x.size, by omega, by go_num, by go_num, by omega, hs2, hb⟩
          case measure => simp [intOf]; omega
        · have hR : Hid (szR L (wStringS l) = -1) := szR_no (by
            have h3 := HS.out; have h4 := hs.out; have h5 := HT.out
            unfold wStringS; omega)
          go_wp2
          go_ret
          exact ⟨by rw [hR.out]; rfl, hb⟩
      · have hR : Hid (szR L (wStringS l) = L - l.length - s) := by
          have h4 := hs.out
          rw [List.take_of_length_le (by omega)] at h4
          have : szR L (wStringS l) = L - (wStringS l : Nat) := szR_yes (by unfold wStringS; omega)
          show _ = _
          rw [this]; unfold wStringS; omega
        go_wp2
        go_ret
        exact ⟨by rw [hR.out]; rfl, hb⟩
  · have hR : Hid (szR L (wStringS l) = -1) := szR_no (by unfold wStringS; omega)
    go_enter Try.func24, Try.ntmps24
    go_wp2
    go_ret
    exact ⟨by rw [hR.out]; rfl, Below.refl _ _⟩

theorem Try.info_String : (Try.prog.info? 9).map (fun i => (i.zero, i.size, i.bytes)) = some (some (.string ByteArray.empty), 1, 16) := by kernel_rfl

set_option maxHeartbeats 400000 in
theorem toStringS_any (ao : Option Addr) (cap : Nat) (l : List ByteArray) (w : World) (hn : wStringS l ≤ 1048576) (h : SliceAt vStr (old w) w ao cap l) :
    Calls Try.prog 26 #[.slice ao l.length cap] w fun e w' => ∃ ao' cap', e = .returned (.slice ao' l.length cap') ∧ SliceAt vStr (fresh w w') w' ao' cap' l ∧ Below w.heap.size w w' := by
  have hl : l.length ≤ 1048576 := by unfold wStringS at hn; omega
  obtain ⟨i0, hi, hz0, hz1, hz2⟩ := info_parts Try.info_String
  go_enter Try.func26, Try.ntmps26
  go_wp2_with (at_make; refine wpList_make_full _ rfl _ _ 55 rfl w.heap.size 9 i0 _ 1 Try.underlying55 hi hz0 hz1 _ _ _ _ l.length rfl rfl rfl rfl ?c1 ?c2 ?c3 ?_)
  case c1 => rw [hz2]; omega
  case c2 => unfold maxLen; omega
  case c3 => exact Nat.le_refl _
  intro w1 hown hgr
  have hR0 : RowAt vStr w1 w.heap.size 9 0 l := RowAt.start rfl hown
  have hB0 : Below w.heap.size w w1 := (Below.refl _ _).grown hgr (Nat.le_refl _) (by intro k hk; cases hk)
  clear hown hgr hi hz0 hz1 hz2
  go_wp2
  go_loopw [4] (fun i wr => ∃ k : Nat, k ≤ l.length ∧ i = .int .i64 k ∧ Below w.heap.size w wr ∧ RowAt vStr wr w.heap.size 9 k l) (fun i _ => l.length - (intOf i).toNat)
  case atStart => exact ⟨0, Nat.zero_le _, rfl, hB0, hR0⟩
  case round =>
    obtain ⟨k, hk, rfl, hbel, hR⟩ := hrel
    by_cases hlt : k < l.length
    · obtain ⟨b, off, rfl, hok, c0, p0⟩ := elem_String h hlt
      have d0 := (hbel.cell (p := ⟨b, off + k, none⟩) hok).trans c0
      have hR3 := hR.store hlt (c := [.string l[k]]) ⟨rfl, p0⟩
      have hB3 := put_below w.heap.size w.heap.size (Nat.le_refl _) [.string l[k]] _ _ (k * 1) hbel
      obtain ⟨u0, e0⟩ := hR.cell (i := k) (by show k < l.length * 1; omega)
      have f0 := hR.free k
      have hv1 : vStr.size = 1 := rfl
      rw [hv1, Nat.mul_one] at hR3
      rw [Nat.mul_one] at hB3
      clear c0 hR0 hB0 hR hv1
      go_wp2
      go_roundw
      case rel => exact ⟨k + 1, by omega, by go_num, hB3, hR3⟩
      case measure => simp [intOf]; omega
    · have hk2 : k = l.length := by omega
      subst hk2
      have hS := hR.done (by unfold maxLen; omega)
      go_wp2
      go_ret
      exact ⟨_, _, rfl, hS, hbel⟩

set_option maxHeartbeats 400000 in
theorem eqStringS_any (ao bo : Option Addr) (ca cb : Nat) (l : List ByteArray) (w : World) (hn : wStringS l ≤ 1048576) (ha : SliceAt vStr (old w) w ao ca l) (hb : SliceAt vStr (old w) w bo cb l) :
    Calls Try.prog 29 #[.slice ao l.length ca, .slice bo l.length cb] w fun e w' => e = .returned (.bool true) ∧ Below w.heap.size w w' := by
  have hl : l.length ≤ 1048576 := by unfold wStringS at hn; omega
  go_enter Try.func29, Try.ntmps29
  go_wp2
  go_loopw [5] (fun i wr => ∃ k : Nat, k ≤ l.length ∧ i = .int .i64 k ∧ ∃ n, wr = w.drewN n) (fun i _ => l.length - (intOf i).toNat)
  case atStart => exact ⟨0, Nat.zero_le _, rfl, 0, rfl⟩
  case round =>
    obtain ⟨k, hk, rfl, n, rfl⟩ := hrel
    by_cases hlt : k < l.length
    · obtain ⟨b, off, rfl, hok, c0, _⟩ := elem_String ha hlt
      obtain ⟨b', off', rfl, hok', c0', _⟩ := elem_String hb hlt
      clear ha hb
      go_wp2
      go_quiet (fail)
      go_wp2
      go_roundw
      case rel => exact ⟨k + 1, by omega, by go_num, _, rfl⟩
      case measure => simp [intOf]; omega
    · go_wp2
      go_ret
      exact ⟨rfl, below_drewN (Below.refl _ _) _⟩

end Go.Proofs.Ytohgkiljdehefaa
