/- DERIVED. By gv.py: data, view and the laws' own functions over FlyKind. -/
import Derived.Test.YtpjacfnjjkoikaaRows
import Derived.Test.YtpjacfnjjkoikaaKGWa
namespace Go.Proofs.Ytpjacfnjjkoikaa
open Go.RowKit
set_option linter.unusedSimpArgs false
set_option linter.unusedVariables false

abbrev DFlyKind := Int × Int
def vFlyKind : View DFlyKind := vPair vInt vInt
theorem vFlyKind_size : vFlyKind.size = 2 := rfl

theorem cells_FlyKind {ok : Nat → Prop} {w : World} {c : List Value} {x : DFlyKind} (h : vFlyKind.rel ok w c x) :
    c = [.int .i64 x.1, .int .i64 x.2] ∧ In64 x.1 ∧ In64 x.2 := by
  obtain ⟨c0, r0, rfl, ⟨rfl, p0⟩, rfl, p1⟩ := h
  exact ⟨rfl, p0, p1⟩

theorem mk_FlyKind {ok : Nat → Prop} {w : World} {x : DFlyKind} (p0 : In64 x.1) (p1 : In64 x.2) : vFlyKind.rel ok w [.int .i64 x.1, .int .i64 x.2] x :=
  ⟨[_], _, rfl, ⟨rfl, p0⟩, rfl, p1⟩

theorem elem_FlyKind {ok : Nat → Prop} {w : World} {ao : Option Addr} {cap : Nat} {l : List DFlyKind} (h : SliceAt vFlyKind ok w ao cap l) {i : Nat} (hi : i < l.length) :
    ∃ b off, ao = some ⟨b, off, none⟩ ∧ ok b ∧ w.cell? ⟨b, off + i * 2, none⟩ = some (.int .i64 (l[i]'hi).1) ∧ w.cell? ⟨b, off + i * 2 + 1, none⟩ = some (.int .i64 (l[i]'hi).2) ∧ In64 (l[i]'hi).1 ∧ In64 (l[i]'hi).2 := by
  obtain ⟨b, off, c, h1, h2, h3, h4⟩ := h.elem hi
  obtain ⟨rfl, p0, p1⟩ := cells_FlyKind h3
  exact ⟨b, off, h1, h2, h4 0 (by decide), h4 1 (by decide), p0, p1⟩

def wFlyKindS (l : List DFlyKind) : Nat := l.length

theorem toFlyKind_any (x : DFlyKind) (w : World) :
    Calls Try.prog 39 #[.agg #[.int .i64 x.1, .int .i64 x.2]] w fun e w' => e = .returned (.agg #[.int .i64 x.1, .int .i64 x.2]) ∧ Below w.heap.size w w' := by
  go_enter Try.func39, Try.ntmps39
  go_wp2
  exact bodyPost_ret (v := .agg #[.int .i64 x.1, .int .i64 x.2]) (by simp [results, Try.results39, go_sem]) rfl ⟨rfl, by repeat (first | exact Below.refl _ _ | refine Below.alloc ?_ (by simp; try omega) _)⟩

set_option maxHeartbeats 400000 in
theorem eqFlyKind_any (x : DFlyKind) (w : World) :
    Calls Try.prog 51 #[.agg #[.int .i64 x.1, .int .i64 x.2], .agg #[.int .i64 x.1, .int .i64 x.2]] w fun e w' => e = .returned (.bool true) ∧ Below w.heap.size w w' := by
  go_enter Try.func51, Try.ntmps51
  go_wp2
  go_ret
  exact ⟨rfl, by repeat (first | exact Below.refl _ _ | refine Below.alloc ?_ (by simp; try omega) _)⟩

end Go.Proofs.Ytpjacfnjjkoikaa

/- DERIVED. By gv.py: data, view and the laws' own functions over FlyStep. -/
namespace Go.Proofs.Ytpjacfnjjkoikaa
open Go.RowKit
set_option linter.unusedSimpArgs false
set_option linter.unusedVariables false

abbrev DFlyStep := Int × Int × Int × Int × Int × Int × Bool
def vFlyStep : View DFlyStep := vPair vInt (vPair vInt (vPair vInt (vPair vInt (vPair vInt (vPair vInt vBool)))))
theorem vFlyStep_size : vFlyStep.size = 7 := rfl

theorem cells_FlyStep {ok : Nat → Prop} {w : World} {c : List Value} {x : DFlyStep} (h : vFlyStep.rel ok w c x) :
    c = [.int .i64 x.1, .int .i64 x.2.1, .int .i64 x.2.2.1, .int .i64 x.2.2.2.1, .int .i64 x.2.2.2.2.1, .int .i64 x.2.2.2.2.2.1, .bool x.2.2.2.2.2.2] ∧ In64 x.1 ∧ In64 x.2.1 ∧ In64 x.2.2.1 ∧ In64 x.2.2.2.1 ∧ In64 x.2.2.2.2.1 ∧ In64 x.2.2.2.2.2.1 := by
  obtain ⟨c0, r0, rfl, ⟨rfl, p0⟩, c1, r1, rfl, ⟨rfl, p1⟩, c2, r2, rfl, ⟨rfl, p2⟩, c3, r3, rfl, ⟨rfl, p3⟩, c4, r4, rfl, ⟨rfl, p4⟩, c5, r5, rfl, ⟨rfl, p5⟩, rfl⟩ := h
  exact ⟨rfl, p0, p1, p2, p3, p4, p5⟩

theorem mk_FlyStep {ok : Nat → Prop} {w : World} {x : DFlyStep} (p0 : In64 x.1) (p1 : In64 x.2.1) (p2 : In64 x.2.2.1) (p3 : In64 x.2.2.2.1) (p4 : In64 x.2.2.2.2.1) (p5 : In64 x.2.2.2.2.2.1) : vFlyStep.rel ok w [.int .i64 x.1, .int .i64 x.2.1, .int .i64 x.2.2.1, .int .i64 x.2.2.2.1, .int .i64 x.2.2.2.2.1, .int .i64 x.2.2.2.2.2.1, .bool x.2.2.2.2.2.2] x :=
  ⟨[_], _, rfl, ⟨rfl, p0⟩, [_], _, rfl, ⟨rfl, p1⟩, [_], _, rfl, ⟨rfl, p2⟩, [_], _, rfl, ⟨rfl, p3⟩, [_], _, rfl, ⟨rfl, p4⟩, [_], _, rfl, ⟨rfl, p5⟩, rfl⟩

theorem elem_FlyStep {ok : Nat → Prop} {w : World} {ao : Option Addr} {cap : Nat} {l : List DFlyStep} (h : SliceAt vFlyStep ok w ao cap l) {i : Nat} (hi : i < l.length) :
    ∃ b off, ao = some ⟨b, off, none⟩ ∧ ok b ∧ w.cell? ⟨b, off + i * 7, none⟩ = some (.int .i64 (l[i]'hi).1) ∧ w.cell? ⟨b, off + i * 7 + 1, none⟩ = some (.int .i64 (l[i]'hi).2.1) ∧ w.cell? ⟨b, off + i * 7 + 2, none⟩ = some (.int .i64 (l[i]'hi).2.2.1) ∧ w.cell? ⟨b, off + i * 7 + 3, none⟩ = some (.int .i64 (l[i]'hi).2.2.2.1) ∧ w.cell? ⟨b, off + i * 7 + 4, none⟩ = some (.int .i64 (l[i]'hi).2.2.2.2.1) ∧ w.cell? ⟨b, off + i * 7 + 5, none⟩ = some (.int .i64 (l[i]'hi).2.2.2.2.2.1) ∧ w.cell? ⟨b, off + i * 7 + 6, none⟩ = some (.bool (l[i]'hi).2.2.2.2.2.2) ∧ In64 (l[i]'hi).1 ∧ In64 (l[i]'hi).2.1 ∧ In64 (l[i]'hi).2.2.1 ∧ In64 (l[i]'hi).2.2.2.1 ∧ In64 (l[i]'hi).2.2.2.2.1 ∧ In64 (l[i]'hi).2.2.2.2.2.1 := by
  obtain ⟨b, off, c, h1, h2, h3, h4⟩ := h.elem hi
  obtain ⟨rfl, p0, p1, p2, p3, p4, p5⟩ := cells_FlyStep h3
  exact ⟨b, off, h1, h2, h4 0 (by decide), h4 1 (by decide), h4 2 (by decide), h4 3 (by decide), h4 4 (by decide), h4 5 (by decide), h4 6 (by decide), p0, p1, p2, p3, p4, p5⟩

def wFlyStepS (l : List DFlyStep) : Nat := l.length

set_option maxHeartbeats 400000 in
theorem szFlyStepS_any (ao : Option Addr) (cap : Nat) (l : List DFlyStep) (L : Int) (w : World) (h0 : 0 ≤ L) (h1 : L ≤ 1048576) (h : SliceAt vFlyStep (old w) w ao cap l) :
    Calls Try.prog 36 #[.slice ao l.length cap, .int .i64 L] w fun e w' => e = .returned (.int .i64 (szR L (wFlyStepS l))) ∧ Below w.heap.size w w' := by
  have hcl := h.1
  have hcm : cap ≤ 9223372036854775807 := h.2.1
  by_cases hn : (l.length : Int) ≤ L
  · have HR : Hid (szR L (wFlyStepS l) = L - l.length) := szR_yes (by unfold wFlyStepS; omega)
    go_enter Try.func36, Try.ntmps36
    go_wp2
    go_ret
    exact ⟨by rw [HR.out]; rfl, Below.refl _ _⟩
  · have HR : Hid (szR L (wFlyStepS l) = -1) := szR_no (by unfold wFlyStepS; omega)
    go_enter Try.func36, Try.ntmps36
    go_wp2
    go_ret
    exact ⟨by rw [HR.out]; rfl, Below.refl _ _⟩

theorem toFlyStep_any (x : DFlyStep) (w : World) :
    Calls Try.prog 76 #[.agg #[.int .i64 x.1, .int .i64 x.2.1, .int .i64 x.2.2.1, .int .i64 x.2.2.2.1, .int .i64 x.2.2.2.2.1, .int .i64 x.2.2.2.2.2.1, .bool x.2.2.2.2.2.2]] w fun e w' => e = .returned (.agg #[.int .i64 x.1, .int .i64 x.2.1, .int .i64 x.2.2.1, .int .i64 x.2.2.2.1, .int .i64 x.2.2.2.2.1, .int .i64 x.2.2.2.2.2.1, .bool x.2.2.2.2.2.2]) ∧ Below w.heap.size w w' := by
  go_enter Try.func76, Try.ntmps76
  go_wp2
  exact bodyPost_ret (v := .agg #[.int .i64 x.1, .int .i64 x.2.1, .int .i64 x.2.2.1, .int .i64 x.2.2.2.1, .int .i64 x.2.2.2.2.1, .int .i64 x.2.2.2.2.2.1, .bool x.2.2.2.2.2.2]) (by simp [results, Try.results76, go_sem]) rfl ⟨rfl, by repeat (first | exact Below.refl _ _ | refine Below.alloc ?_ (by simp; try omega) _)⟩

theorem Try.info_FlyStep : (Try.prog.info? 76).map (fun i => (i.zero, i.size, i.bytes)) = some (some (.agg #[.int .i64 0, .int .i64 0, .int .i64 0, .int .i64 0, .int .i64 0, .int .i64 0, .bool false]), 7, 56) := by kernel_rfl

set_option maxHeartbeats 1000000 in
theorem toFlyStepS_any (ao : Option Addr) (cap : Nat) (l : List DFlyStep) (w : World) (hn : wFlyStepS l ≤ 1048576) (h : SliceAt vFlyStep (old w) w ao cap l) :
    Calls Try.prog 40 #[.slice ao l.length cap] w fun e w' => ∃ ao' cap', e = .returned (.slice ao' l.length cap') ∧ SliceAt vFlyStep (fresh w w') w' ao' cap' l ∧ Below w.heap.size w w' := by
  have hl : l.length ≤ 1048576 := by unfold wFlyStepS at hn; omega
  obtain ⟨i0, hi, hz0, hz1, hz2⟩ := info_parts Try.info_FlyStep
  go_enter Try.func40, Try.ntmps40
  go_wp2_with (at_make; refine wpList_make_full _ rfl _ _ 32 rfl w.heap.size 76 i0 _ 7 Try.underlying32 hi hz0 hz1 _ _ _ _ l.length rfl rfl rfl rfl ?c1 ?c2 ?c3 ?_)
  case c1 => rw [hz2]; omega
  case c2 => unfold maxLen; omega
  case c3 => exact Nat.le_refl _
  intro w1 hown hgr
  have hR0 : RowAt vFlyStep w1 w.heap.size 76 0 l := RowAt.start rfl hown
  have hB0 : Below w.heap.size w w1 := (Below.refl _ _).grown hgr (Nat.le_refl _) (by intro k hk; cases hk)
  clear hown hgr hi hz0 hz1 hz2
  go_wp2
  go_loopw [4] (fun i wr => ∃ k : Nat, k ≤ l.length ∧ i = .int .i64 k ∧ Below w.heap.size w wr ∧ RowAt vFlyStep wr w.heap.size 76 k l) (fun i _ => l.length - (intOf i).toNat)
  case atStart => exact ⟨0, Nat.zero_le _, rfl, hB0, hR0⟩
  case round =>
    obtain ⟨k, hk, rfl, hbel, hR⟩ := hrel
    by_cases hlt : k < l.length
    · obtain ⟨b, off, rfl, hok, c0, c1, c2, c3, c4, c5, c6, p0, p1, p2, p3, p4, p5⟩ := elem_FlyStep h hlt
      have d0 := (hbel.cell (p := ⟨b, off + k * 7, none⟩) hok).trans c0
      have d1 := (hbel.cell (p := ⟨b, off + k * 7 + 1, none⟩) hok).trans c1
      have d2 := (hbel.cell (p := ⟨b, off + k * 7 + 2, none⟩) hok).trans c2
      have d3 := (hbel.cell (p := ⟨b, off + k * 7 + 3, none⟩) hok).trans c3
      have d4 := (hbel.cell (p := ⟨b, off + k * 7 + 4, none⟩) hok).trans c4
      have d5 := (hbel.cell (p := ⟨b, off + k * 7 + 5, none⟩) hok).trans c5
      have d6 := (hbel.cell (p := ⟨b, off + k * 7 + 6, none⟩) hok).trans c6
      clear c0 c1 c2 c3 c4 c5 c6 hR0 hB0
      go_wp2_with fail
      refine (toFlyStep_any _ _).mono ?_
      rintro e w2 ⟨rfl, hb2⟩
      have hR2 := hR.later hb2
      have hB2 := hbel.trans (hb2.mono hbel.size)
      have hR3 := hR2.store hlt (mk_FlyStep p0 p1 p2 p3 p4 p5)
      have hB3 := put_below w.heap.size w.heap.size (Nat.le_refl _) [.int .i64 l[k].1, .int .i64 l[k].2.1, .int .i64 l[k].2.2.1, .int .i64 l[k].2.2.2.1, .int .i64 l[k].2.2.2.2.1, .int .i64 l[k].2.2.2.2.2.1, .bool l[k].2.2.2.2.2.2] _ _ (k * 7) hB2
      obtain ⟨u0, e0⟩ := hR2.cell (i := k * 7) (by rw [vFlyStep_size]; omega)
      obtain ⟨u1, e1⟩ := hR2.cell (i := k * 7 + 1) (by rw [vFlyStep_size]; omega)
      obtain ⟨u2, e2⟩ := hR2.cell (i := k * 7 + 2) (by rw [vFlyStep_size]; omega)
      obtain ⟨u3, e3⟩ := hR2.cell (i := k * 7 + 3) (by rw [vFlyStep_size]; omega)
      obtain ⟨u4, e4⟩ := hR2.cell (i := k * 7 + 4) (by rw [vFlyStep_size]; omega)
      obtain ⟨u5, e5⟩ := hR2.cell (i := k * 7 + 5) (by rw [vFlyStep_size]; omega)
      obtain ⟨u6, e6⟩ := hR2.cell (i := k * 7 + 6) (by rw [vFlyStep_size]; omega)
      have f0 := hR2.free (k * 7)
      have f1 := hR2.free (k * 7 + 1)
      have f2 := hR2.free (k * 7 + 2)
      have f3 := hR2.free (k * 7 + 3)
      have f4 := hR2.free (k * 7 + 4)
      have f5 := hR2.free (k * 7 + 5)
      have f6 := hR2.free (k * 7 + 6)
      clear hR hR2 hB2 hb2
      go_wp2
      go_roundw
      case rel => exact ⟨k + 1, by omega, by go_num, hB3, hR3⟩
      case measure => simp [intOf]; omega
    · have hk2 : k = l.length := by omega
      subst hk2
      have hS := hR.done (by unfold maxLen; omega)
      go_wp2
      go_ret
      exact ⟨_, _, rfl, hS, hbel⟩

set_option maxHeartbeats 400000 in
theorem eqFlyStep_any (x : DFlyStep) (w : World) :
    Calls Try.prog 86 #[.agg #[.int .i64 x.1, .int .i64 x.2.1, .int .i64 x.2.2.1, .int .i64 x.2.2.2.1, .int .i64 x.2.2.2.2.1, .int .i64 x.2.2.2.2.2.1, .bool x.2.2.2.2.2.2], .agg #[.int .i64 x.1, .int .i64 x.2.1, .int .i64 x.2.2.1, .int .i64 x.2.2.2.1, .int .i64 x.2.2.2.2.1, .int .i64 x.2.2.2.2.2.1, .bool x.2.2.2.2.2.2]] w fun e w' => e = .returned (.bool true) ∧ Below w.heap.size w w' := by
  go_enter Try.func86, Try.ntmps86
  go_wp2
  go_ret
  exact ⟨rfl, by repeat (first | exact Below.refl _ _ | refine Below.alloc ?_ (by simp; try omega) _)⟩

set_option maxHeartbeats 1000000 in
theorem eqFlyStepS_any (ao bo : Option Addr) (ca cb : Nat) (l : List DFlyStep) (w : World) (hn : wFlyStepS l ≤ 1048576) (ha : SliceAt vFlyStep (old w) w ao ca l) (hb : SliceAt vFlyStep (old w) w bo cb l) :
    Calls Try.prog 52 #[.slice ao l.length ca, .slice bo l.length cb] w fun e w' => e = .returned (.bool true) ∧ Below w.heap.size w w' := by
  have hl : l.length ≤ 1048576 := by unfold wFlyStepS at hn; omega
  go_enter Try.func52, Try.ntmps52
  go_wp2
  go_loopw [5] (fun i wr => ∃ k : Nat, k ≤ l.length ∧ i = .int .i64 k ∧ Below w.heap.size w wr) (fun i _ => l.length - (intOf i).toNat)
  case atStart => exact ⟨0, Nat.zero_le _, rfl, Below.refl _ _⟩
  case round =>
    obtain ⟨k, hk, rfl, hbel⟩ := hrel
    by_cases hlt : k < l.length
    · obtain ⟨b, off, rfl, hok, c0, c1, c2, c3, c4, c5, c6, _, _, _, _, _, _⟩ := elem_FlyStep ha hlt
      obtain ⟨b', off', rfl, hok', c0', c1', c2', c3', c4', c5', c6', _, _, _, _, _, _⟩ := elem_FlyStep hb hlt
      have d0 := (hbel.cell (p := ⟨b, off + k * 7, none⟩) hok).trans c0
      have d1 := (hbel.cell (p := ⟨b, off + k * 7 + 1, none⟩) hok).trans c1
      have d2 := (hbel.cell (p := ⟨b, off + k * 7 + 2, none⟩) hok).trans c2
      have d3 := (hbel.cell (p := ⟨b, off + k * 7 + 3, none⟩) hok).trans c3
      have d4 := (hbel.cell (p := ⟨b, off + k * 7 + 4, none⟩) hok).trans c4
      have d5 := (hbel.cell (p := ⟨b, off + k * 7 + 5, none⟩) hok).trans c5
      have d6 := (hbel.cell (p := ⟨b, off + k * 7 + 6, none⟩) hok).trans c6
      have d0' := (hbel.cell (p := ⟨b', off' + k * 7, none⟩) hok').trans c0'
      have d1' := (hbel.cell (p := ⟨b', off' + k * 7 + 1, none⟩) hok').trans c1'
      have d2' := (hbel.cell (p := ⟨b', off' + k * 7 + 2, none⟩) hok').trans c2'
      have d3' := (hbel.cell (p := ⟨b', off' + k * 7 + 3, none⟩) hok').trans c3'
      have d4' := (hbel.cell (p := ⟨b', off' + k * 7 + 4, none⟩) hok').trans c4'
      have d5' := (hbel.cell (p := ⟨b', off' + k * 7 + 5, none⟩) hok').trans c5'
      have d6' := (hbel.cell (p := ⟨b', off' + k * 7 + 6, none⟩) hok').trans c6'
      generalize l[k] = x at *
      have hsz := hbel.size
      clear c0 c1 c2 c3 c4 c5 c6 c0' c1' c2' c3' c4' c5' c6' ha hb
      go_wp2
      go_region_with (go_at_call 86; refine (eqFlyStep_any _ _).mono ?_; rintro e w1 ⟨rfl, hb1⟩)
      all_goals
        go_wp2
        go_roundw
        case rel => exact ⟨k + 1, by omega, by go_num, hbel.trans (Below.trans (below_drewN (Below.refl _ _) 1) (hb1.mono hsz))⟩
        case measure => simp [intOf]; omega
    · go_wp2
      go_ret
      exact ⟨rfl, hbel⟩

end Go.Proofs.Ytpjacfnjjkoikaa

/- DERIVED. By gv.py: data, view and the laws' own functions over FlyPath. -/
namespace Go.Proofs.Ytpjacfnjjkoikaa
open Go.RowKit
set_option linter.unusedSimpArgs false
set_option linter.unusedVariables false

abbrev DFlyPath := DFlyKind × List DFlyStep × Int × Int
def vFlyPath : View DFlyPath := vPair vFlyKind (vPair (vSlice vFlyStep) (vPair vInt vInt))
theorem vFlyPath_size : vFlyPath.size = 5 := rfl

theorem cells_FlyPath {ok : Nat → Prop} {w : World} {c : List Value} {x : DFlyPath} (h : vFlyPath.rel ok w c x) :
    ∃ ao2 cap2, c = [.int .i64 x.1.1, .int .i64 x.1.2, .slice ao2 x.2.1.length cap2, .int .i64 x.2.2.1, .int .i64 x.2.2.2] ∧ In64 x.1.1 ∧ In64 x.1.2 ∧ SliceAt vFlyStep ok w ao2 cap2 x.2.1 ∧ In64 x.2.2.1 ∧ In64 x.2.2.2 := by
  obtain ⟨c0, r0, rfl, t0, c2, r2, rfl, ⟨ao2, cap2, rfl, p2⟩, c3, r3, rfl, ⟨rfl, p3⟩, rfl, p4⟩ := h
  obtain ⟨rfl, p0, p1⟩ := cells_FlyKind t0
  exact ⟨ao2, cap2, rfl, p0, p1, p2, p3, p4⟩

theorem mk_FlyPath {ok : Nat → Prop} {w : World} {x : DFlyPath} {ao2 : Option Addr} {cap2 : Nat} (p0 : In64 x.1.1) (p1 : In64 x.1.2) (p2 : SliceAt vFlyStep ok w ao2 cap2 x.2.1) (p3 : In64 x.2.2.1) (p4 : In64 x.2.2.2) : vFlyPath.rel ok w [.int .i64 x.1.1, .int .i64 x.1.2, .slice ao2 x.2.1.length cap2, .int .i64 x.2.2.1, .int .i64 x.2.2.2] x :=
  ⟨[_, _], _, rfl, mk_FlyKind p0 p1, [_], _, rfl, ⟨_, _, rfl, p2⟩, [_], _, rfl, ⟨rfl, p3⟩, rfl, p4⟩

theorem elem_FlyPath {ok : Nat → Prop} {w : World} {ao : Option Addr} {cap : Nat} {l : List DFlyPath} (h : SliceAt vFlyPath ok w ao cap l) {i : Nat} (hi : i < l.length) :
    ∃ b off, ∃ ao2 cap2, ao = some ⟨b, off, none⟩ ∧ ok b ∧ w.cell? ⟨b, off + i * 5, none⟩ = some (.int .i64 (l[i]'hi).1.1) ∧ w.cell? ⟨b, off + i * 5 + 1, none⟩ = some (.int .i64 (l[i]'hi).1.2) ∧ w.cell? ⟨b, off + i * 5 + 2, none⟩ = some (.slice ao2 (l[i]'hi).2.1.length cap2) ∧ w.cell? ⟨b, off + i * 5 + 3, none⟩ = some (.int .i64 (l[i]'hi).2.2.1) ∧ w.cell? ⟨b, off + i * 5 + 4, none⟩ = some (.int .i64 (l[i]'hi).2.2.2) ∧ In64 (l[i]'hi).1.1 ∧ In64 (l[i]'hi).1.2 ∧ SliceAt vFlyStep ok w ao2 cap2 (l[i]'hi).2.1 ∧ In64 (l[i]'hi).2.2.1 ∧ In64 (l[i]'hi).2.2.2 := by
  obtain ⟨b, off, c, h1, h2, h3, h4⟩ := h.elem hi
  obtain ⟨ao2, cap2, rfl, p0, p1, p2, p3, p4⟩ := cells_FlyPath h3
  exact ⟨b, off, ao2, cap2, h1, h2, h4 0 (by decide), h4 1 (by decide), h4 2 (by decide), h4 3 (by decide), h4 4 (by decide), p0, p1, p2, p3, p4⟩

def wFlyPath (x : DFlyPath) : Nat := wFlyStepS x.2.1
def wFlyPathS (l : List DFlyPath) : Nat := l.length + (l.map wFlyPath).sum

set_option maxHeartbeats 400000 in
theorem szFlyPath_any (x : DFlyPath) (ao2 : Option Addr) (cap2 : Nat) (L : Int) (w : World) (h0 : 0 ≤ L) (h1 : L ≤ 1048576) (p2 : SliceAt vFlyStep (old w) w ao2 cap2 x.2.1) :
    Calls Try.prog 9 #[.agg #[.int .i64 x.1.1, .int .i64 x.1.2, .slice ao2 x.2.1.length cap2, .int .i64 x.2.2.1, .int .i64 x.2.2.2], .int .i64 L] w fun e w' => e = .returned (.int .i64 (szR L (wFlyPath x))) ∧ Below w.heap.size w w' := by
  go_enter Try.func9, Try.ntmps9
  go_wp2_with fail
  refine (szFlyStepS_any _ _ _ _ _ (by omega) (by omega) (p2.later (by repeat (first | exact Below.refl _ _ | refine Below.alloc ?_ (by simp; try omega) _)))).mono ?_
  rintro e w2 ⟨rfl, g2⟩
  have b2 : Below w.heap.size w w2 := Below.trans (by repeat (first | exact Below.refl _ _ | refine Below.alloc ?_ (by simp; try omega) _)) (g2.mono (by first | exact Nat.le_refl _ | (simp; done) | (simp; omega) | exact b2.size))
  obtain ⟨hc2, hf2⟩ := bcell g2
  have z2 := g2.size
  try simp at z2 hc2 hf2
  have y2 : w.heap.size < w2.heap.size := by omega
  by_cases n2 : ((wFlyStepS x.2.1 : Nat) : Int) ≤ L
  · rw [szR_yes n2]
    have HR : Hid (szR L (wFlyPath x) = L - (wFlyStepS x.2.1 : Nat)) := by
      have h : szR L (wFlyPath x) = L - (wFlyPath x : Nat) := szR_yes (by unfold wFlyPath; omega)
      show _ = _
      rw [h]; unfold wFlyPath; omega
    go_wp2
    go_ret
    exact ⟨by rw [HR.out]; rfl, b2⟩
  · rw [szR_no n2]
    have HR : Hid (szR L (wFlyPath x) = -1) := szR_no (by unfold wFlyPath; omega)
    go_wp2
    go_ret
    exact ⟨by rw [HR.out]; rfl, b2⟩

set_option maxHeartbeats 1000000 in
theorem toFlyPath_any (x : DFlyPath) (ao2 : Option Addr) (cap2 : Nat) (w : World) (p2 : SliceAt vFlyStep (old w) w ao2 cap2 x.2.1) (hn : wFlyPath x ≤ 1048576) :
    Calls Try.prog 11 #[.agg #[.int .i64 x.1.1, .int .i64 x.1.2, .slice ao2 x.2.1.length cap2, .int .i64 x.2.2.1, .int .i64 x.2.2.2]] w fun e w' => ∃ ao2' cap2', e = .returned (.agg #[.int .i64 x.1.1, .int .i64 x.1.2, .slice ao2' x.2.1.length cap2', .int .i64 x.2.2.1, .int .i64 x.2.2.2]) ∧ SliceAt vFlyStep (fresh w w') w' ao2' cap2' x.2.1 ∧ Below w.heap.size w w' := by
  have s2 : wFlyStepS x.2.1 ≤ 1048576 := by unfold wFlyPath at hn; omega
  clear hn
  go_enter Try.func11, Try.ntmps11
  go_wp2_with fail
  have b0 : Below w.heap.size w (((w.alloc (.cells #[.int .i64 x.1.1, .int .i64 x.1.2, .slice ao2 x.2.1.length cap2, .int .i64 x.2.2.1, .int .i64 x.2.2.2] 26)).alloc (.cells #[.int .i64 0, .int .i64 0, .slice none 0 0, .int .i64 0, .int .i64 0] 34)).alloc (.cells #[.int .i64 0, .int .i64 0, .slice none 0 0, .int .i64 0, .int .i64 0] 34)) := (((Below.refl w.heap.size w).alloc (Nat.le_refl _) _).alloc (by simp) _).alloc (by simp; try omega) _
  refine (toFlyKind_any x.1 _).mono ?_
  rintro e w0 ⟨rfl, g0⟩
  have b0' := b0.trans (g0.mono b0.size)
  obtain ⟨hc0, hf0⟩ := bcell g0
  have z0 := g0.size
  try simp at z0 hc0 hf0
  have y00 : w.heap.size < w0.heap.size := by omega
  have y01 : w.heap.size + 1 < w0.heap.size := by omega
  have y02 : w.heap.size + 1 + 1 < w0.heap.size := by omega
  go_wp2_with fail
  have b2 : Below w.heap.size w ((w0.setCell ⟨w.heap.size + 1 + 1, 0, none⟩ (.int .i64 x.1.1)).setCell ⟨w.heap.size + 1 + 1, 1, none⟩ (.int .i64 x.1.2)) := ((b0'.setCell (p := ⟨w.heap.size + 1 + 1, 0, none⟩) (by simp; try omega) _).setCell (p := ⟨w.heap.size + 1 + 1, 1, none⟩) (by simp; try omega) _)
  refine (toFlyStepS_any ao2 cap2 x.2.1 _ s2 (p2.later b2)).mono ?_
  rintro e w2 ⟨ao2', cap2', rfl, q2, g2⟩
  have b2' := b2.trans (g2.mono b2.size)
  obtain ⟨hc2, hf2⟩ := bcell g2
  have z2 := g2.size
  try simp at z2 hc2 hf2
  have y20 : w.heap.size < w2.heap.size := by omega
  have y21 : w.heap.size + 1 < w2.heap.size := by omega
  have y22 : w.heap.size + 1 + 1 < w2.heap.size := by omega
  go_wp2
  refine bodyPost_ret (v := .agg #[.int .i64 x.1.1, .int .i64 x.1.2, .slice ao2' x.2.1.length cap2', .int .i64 x.2.2.1, .int .i64 x.2.2.2]) (by simp [results, Try.results11, go_sem, hc0, hf0, y00, y01, y02, hc2, hf2, y20, y21, y22]) rfl ⟨ao2', cap2', rfl, ?_, ?_⟩
  · refine SliceAt.mono (q2.stays ?_) ?_
    · intro b hb
      have hb1 := hb.1
      have hb2 := hb.2
      simp at hb1 hb2
      have hne1 : b ≠ w.heap.size + 1 := by omega
      have hne2 : b ≠ w.heap.size + 1 + 1 := by omega
      simp [Below.heap_setCell, hne1, hne2]
    · intro b hb
      have hb1 := hb.1
      have hb2 := hb.2
      simp at hb1 hb2
      exact ⟨by omega, by simp; omega⟩
  · repeat (first | refine Below.setCell ?_ (by simp; try omega) _ | exact b2')

set_option maxHeartbeats 400000 in
theorem eqFlyPath_any (x : DFlyPath) (ao2 : Option Addr) (cap2 : Nat) (ao2' : Option Addr) (cap2' : Nat) (w : World) (p2 : SliceAt vFlyStep (old w) w ao2 cap2 x.2.1) (p2' : SliceAt vFlyStep (old w) w ao2' cap2' x.2.1) (hn : wFlyPath x ≤ 1048576) :
    Calls Try.prog 14 #[.agg #[.int .i64 x.1.1, .int .i64 x.1.2, .slice ao2 x.2.1.length cap2, .int .i64 x.2.2.1, .int .i64 x.2.2.2], .agg #[.int .i64 x.1.1, .int .i64 x.1.2, .slice ao2' x.2.1.length cap2', .int .i64 x.2.2.1, .int .i64 x.2.2.2]] w fun e w' => e = .returned (.bool true) ∧ Below w.heap.size w w' := by
  have s2 : wFlyStepS x.2.1 ≤ 1048576 := by unfold wFlyPath at hn; omega
  clear hn
  go_enter Try.func14, Try.ntmps14
  go_wp2_with fail
  have b0 : Below w.heap.size w _ := ((Below.refl w.heap.size w).alloc (Nat.le_refl _) (.cells #[.int .i64 x.1.1, .int .i64 x.1.2, .slice ao2 x.2.1.length cap2, .int .i64 x.2.2.1, .int .i64 x.2.2.2] 34)).alloc (by simp) (.cells #[.int .i64 x.1.1, .int .i64 x.1.2, .slice ao2' x.2.1.length cap2', .int .i64 x.2.2.1, .int .i64 x.2.2.2] 34)
  refine (eqFlyKind_any x.1 _).mono ?_
  rintro e w0 ⟨rfl, g0⟩
  have b0' := b0.trans (g0.mono b0.size)
  obtain ⟨hc0, hf0⟩ := bcell g0
  have z0 := g0.size
  try simp at z0 hc0 hf0
  have y00 : w.heap.size < w0.heap.size := by omega
  have y01 : w.heap.size + 1 < w0.heap.size := by omega
  go_wp2_with fail
  have b2 := b0'
  refine (eqFlyStepS_any ao2 ao2' cap2 cap2' x.2.1 _ s2 (p2.later b2) (p2'.later b2)).mono ?_
  rintro e w2 ⟨rfl, g2⟩
  have b2' := b2.trans (g2.mono b2.size)
  obtain ⟨hc2, hf2⟩ := bcell g2
  have z2 := g2.size
  try simp at z2 hc2 hf2
  have y20 : w.heap.size < w2.heap.size := by omega
  have y21 : w.heap.size + 1 < w2.heap.size := by omega
  go_wp2
  go_ret
  exact ⟨rfl, b2'⟩

end Go.Proofs.Ytpjacfnjjkoikaa
