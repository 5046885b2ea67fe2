/- DERIVED. The law's small functions over cells: wmAbs, wmMost, wmCells: their walks. -/
import Derived.Test.YtcamggfmaphcbaaLm0
import Derived.Test.YtcamggfmaphcbaaLd0
namespace Go.Proofs.Ytcamggfmaphcbaa
namespace Leg
open Go.RowKit
set_option linter.unusedSimpArgs false
set_option linter.unusedVariables false

theorem lAbs (n d : Int) (w : World) (h : -100000 ≤ n ∧ n ≤ 100000) (hd : d = if n < 0 then -n else n) :
    Calls Try.prog 10 #[.int .i64 n] w fun e w' => e = .returned (.int .i64 d) ∧ w = w' := by
  obtain ⟨h1, h2⟩ := h
  by_cases hn : n < 0
  · rw [if_pos hn] at hd
    subst hd
    go_enter Try.func10, Try.ntmps10
    go_wp2
    go_ret
    exact ⟨rfl, rfl⟩
  · rw [if_neg hn] at hd
    subst hd
    go_enter Try.func10, Try.ntmps10
    go_wp2
    go_ret
    exact ⟨rfl, rfl⟩

/-- A cell whose numbers are small. -/
def SmallC (c : DCell) : Prop := (-1000 ≤ c.1 ∧ c.1 ≤ 1000) ∧ -1000 ≤ c.2 ∧ c.2 ≤ 1000

set_option maxHeartbeats 1000000 in
theorem lMost (a b : DCell) (w : World) (ha : SmallC a) (hb : SmallC b) :
    Calls Try.prog 9 #[.agg #[.int .i64 a.1, .int .i64 a.2], .agg #[.int .i64 b.1, .int .i64 b.2]] w fun e w' => e = .returned (.int .i64 (stepsOf a b)) ∧ Below w.heap.size w w' := by
  obtain ⟨x, y⟩ := a
  obtain ⟨x', y'⟩ := b
  obtain ⟨⟨hx1, hx2⟩, hy1, hy2⟩ := ha
  obtain ⟨⟨hx1', hx2'⟩, hy1', hy2'⟩ := hb
  simp only [stepsOf] at *
  have ex : apartOf x x' = if x - x' < 0 then -(x - x') else x - x' := by unfold apartOf; split <;> split <;> omega
  have ey : apartOf y y' = if y - y' < 0 then -(y - y') else y - y' := by unfold apartOf; split <;> split <;> omega
  have HX := fun w => lAbs (x - x') _ w ⟨by omega, by omega⟩ ex
  have HY := fun w => lAbs (y - y') _ w ⟨by omega, by omega⟩ ey
  clear ex ey
  generalize apartOf x x' = d at *
  generalize apartOf y y' = e at *
  obtain ⟨m, hm'⟩ : ∃ m, (if d < e then e else d) = m := ⟨_, rfl⟩
  have hm : Hid ((d > e → m = d) ∧ (d ≤ e → m = e)) := ⟨fun h => by rw [← hm']; split <;> omega, fun h => by rw [← hm']; split <;> omega⟩
  rw [hm']
  clear hm'
  have HB : Below w.heap.size w ((w.alloc (.cells #[.int .i64 x, .int .i64 y] 24)).alloc (.cells #[.int .i64 x', .int .i64 y'] 24)) := (((Below.refl _ _).alloc (Nat.le_refl _) _).alloc (by simp) _)
  go_enter Try.func9, Try.ntmps9
  go_wp2_with fail
  refine (HX _).mono ?_
  rintro e w' ⟨rfl, rfl⟩
  clear HX
  go_wp2_with fail
  refine (HY _).mono ?_
  rintro e w' ⟨rfl, rfl⟩
  clear HY
  by_cases hde : d > e
  · have hmm : Hid (m = d) := hm.out.1 (by omega)
    clear hm
    go_wp2
    go_ret
    exact ⟨by rw [hmm.out]; rfl, HB⟩
  · have hmm : Hid (m = e) := hm.out.2 (by omega)
    clear hm
    go_wp2
    go_ret
    exact ⟨by rw [hmm.out]; rfl, HB⟩

set_option maxHeartbeats 1000000 in
theorem lCells (ao bo : Option Addr) (ca cb : Nat) (l : List DCell) (w : World) (hl : l.length ≤ maxLen) (ha : CellsAt w ao l) (hb : CellsAt w bo l) :
    Calls Try.prog 7 #[.slice ao l.length ca, .slice bo l.length cb] w fun e w' => e = .returned (.bool true) ∧ Below w.heap.size w w' := by
  unfold maxLen at hl
  go_enter Try.func7, Try.ntmps7
  go_wp2
  go_loopw [5] (fun i wr => ∃ k : Nat, k ≤ l.length ∧ i = .int .i64 k ∧ Below w.heap.size w wr) (fun i _ => l.length - (intOf i).toNat)
  case atStart => exact ⟨0, Nat.zero_le _, rfl, Below.refl _ _⟩
  case round =>
    obtain ⟨k, hk, rfl, hbel⟩ := hrel
    by_cases hlt : k < l.length
    · obtain ⟨g, rfl, hok, c0, c1⟩ := ha.at hlt
      obtain ⟨g', rfl, hok', c0', c1'⟩ := hb.at hlt
      have d0 := (hbel.cell (p := ⟨g, k * 2, none⟩) hok).trans c0
      have d1 := (hbel.cell (p := ⟨g, k * 2 + 1, none⟩) hok).trans c1
      have d0' := (hbel.cell (p := ⟨g', k * 2, none⟩) hok').trans c0'
      have d1' := (hbel.cell (p := ⟨g', k * 2 + 1, none⟩) hok').trans c1'
      generalize l[k] = x at *
      have hsz := hbel.size
      clear c0 c1 c0' c1' ha hb
      go_wp2
      go_quiet (fail)
      go_wp2
      go_roundw
      case rel => exact ⟨k + 1, by omega, by go_num, below_drewN hbel _⟩
      case measure => simp [intOf]; omega
    · go_wp2
      go_ret
      exact ⟨rfl, hbel⟩

end Leg
end Go.Proofs.Ytcamggfmaphcbaa
