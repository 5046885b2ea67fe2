/- DERIVED. The laws' own functions over slices of int. -/
import Derived.Test.YtfjeiegoblaadaaRows
import Derived.Test.YtfjeiegoblaadaaVw1
import Derived.Deep.QuietTactic
import Derived.BigQuiet
namespace Go.Proofs.Ytfjeiegoblaadaa
open Go.RowKit
set_option linter.unusedSimpArgs false
set_option linter.unusedVariables false

def wIntS (l : List Int) : Nat := l.length

theorem elem_Int {ok : Nat → Prop} {w : World} {ao : Option Addr} {cap : Nat} {l : List Int} (h : SliceAt vInt ok w ao cap l) {i : Nat} (hi : i < l.length) :
    ∃ b off, ao = some ⟨b, off, none⟩ ∧ ok b ∧ w.cell? ⟨b, off + i, none⟩ = some (.int .i64 (l[i]'hi)) ∧ In64 (l[i]'hi) := by
  obtain ⟨b, off, c, h1, h2, ⟨rfl, p⟩, h4⟩ := h.elem hi
  exact ⟨b, off, h1, h2, by have := h4 0 (by decide); simpa [vInt] using this, p⟩

theorem Try.infoI : (Try.prog.info? 3).map (fun i => (i.zero, i.size, i.bytes)) = some (some (.int .i64 0), 1, 8) := by kernel_rfl

set_option maxHeartbeats 400000 in
theorem toIntS_any (ao : Option Addr) (cap : Nat) (l : List Int) (w : World) (hn : wIntS l ≤ 1048576) (h : SliceAt vInt (old w) w ao cap l) :
    Calls Try.prog 16 #[.slice ao l.length cap] w fun e w' => ∃ ao' cap', e = .returned (.slice ao' l.length cap') ∧ SliceAt vInt (fresh w w') w' ao' cap' l ∧ Below w.heap.size w w' := by
  have hl : l.length ≤ 1048576 := by unfold wIntS at hn; omega
  obtain ⟨i0, hi, hz0, hz1, hz2⟩ := info_parts Try.infoI
  go_enter Try.func16, Try.ntmps16
  go_wp2_with (at_make; refine wpList_make_full _ rfl _ _ 39 rfl w.heap.size 3 i0 _ 1 Try.underlying39 hi hz0 hz1 _ _ _ _ l.length rfl rfl rfl rfl ?c1 ?c2 ?c3 ?_)
  case c1 => rw [hz2]; omega
  case c2 => unfold maxLen; omega
  case c3 => exact Nat.le_refl _
  intro w1 hown hgr
  have hR0 : RowAt vInt w1 w.heap.size 3 0 l := RowAt.start rfl hown
  have hB0 : Below w.heap.size w w1 := (Below.refl _ _).grown hgr (Nat.le_refl _) (by intro k hk; cases hk)
  clear hown hgr hi hz0 hz1 hz2
  go_wp2
  go_loopw [4] (fun i wr => ∃ k : Nat, k ≤ l.length ∧ i = .int .i64 k ∧ Below w.heap.size w wr ∧ RowAt vInt wr w.heap.size 3 k l) (fun i _ => l.length - (intOf i).toNat)
  case atStart => exact ⟨0, Nat.zero_le _, rfl, hB0, hR0⟩
  case round =>
    obtain ⟨k, hk, rfl, hbel, hR⟩ := hrel
    by_cases hlt : k < l.length
    · obtain ⟨b, off, rfl, hok, c0, p0⟩ := elem_Int h hlt
      have d0 := (hbel.cell (p := ⟨b, off + k, none⟩) hok).trans c0
      have hR3 := hR.store hlt (c := [.int .i64 l[k]]) ⟨rfl, p0⟩
      have hB3 := put_below w.heap.size w.heap.size (Nat.le_refl _) [.int .i64 l[k]] _ _ (k * 1) hbel
      obtain ⟨u0, e0⟩ := hR.cell (i := k) (by show k < l.length * 1; omega)
      have f0 := hR.free k
      have hv1 : vInt.size = 1 := rfl
      rw [hv1, Nat.mul_one] at hR3
      rw [Nat.mul_one] at hB3
      clear c0 hR0 hB0 hR hv1
      go_wp2
      go_roundw
      case rel => exact ⟨k + 1, by omega, by go_num, hB3, hR3⟩
      case measure => simp [intOf]; omega
    · have hk2 : k = l.length := by omega
      subst hk2
      have hS := hR.done (by unfold maxLen; omega)
      go_wp2
      go_ret
      exact ⟨_, _, rfl, hS, hbel⟩

set_option maxHeartbeats 400000 in
theorem eqIntS_any (ao bo : Option Addr) (ca cb : Nat) (l : List Int) (w : World) (hn : wIntS l ≤ 1048576) (ha : SliceAt vInt (old w) w ao ca l) (hb : SliceAt vInt (old w) w bo cb l) :
    Calls Try.prog 18 #[.slice ao l.length ca, .slice bo l.length cb] w fun e w' => e = .returned (.bool true) ∧ Below w.heap.size w w' := by
  have hl : l.length ≤ 1048576 := by unfold wIntS at hn; omega
  go_enter Try.func18, Try.ntmps18
  go_wp2
  go_loopw [5] (fun i wr => ∃ k : Nat, k ≤ l.length ∧ i = .int .i64 k ∧ ∃ n, wr = w.drewN n) (fun i _ => l.length - (intOf i).toNat)
  case atStart => exact ⟨0, Nat.zero_le _, rfl, 0, rfl⟩
  case round =>
    obtain ⟨k, hk, rfl, n, rfl⟩ := hrel
    by_cases hlt : k < l.length
    · obtain ⟨b, off, rfl, hok, c0, _⟩ := elem_Int ha hlt
      obtain ⟨b', off', rfl, hok', c0', _⟩ := elem_Int hb hlt
      clear ha hb
      go_wp2
      go_quiet (fail)
      go_wp2
      go_roundw
      case rel => exact ⟨k + 1, by omega, by go_num, _, rfl⟩
      case measure => simp [intOf]; omega
    · go_wp2
      go_ret
      exact ⟨rfl, below_drewN (Below.refl _ _) _⟩

end Go.Proofs.Ytfjeiegoblaadaa
