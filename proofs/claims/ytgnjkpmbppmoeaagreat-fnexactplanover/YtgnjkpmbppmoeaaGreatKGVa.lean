/- DERIVED. By gv.py: data, view and the laws' own functions over PlanKind. -/
import Derived.Test.YtgnjkpmbppmoeaaGreatRows
import Derived.Test.YtgnjkpmbppmoeaaGreatKGVw
namespace Go.Proofs.YtgnjkpmbppmoeaaGreat
open Go.RowKit
set_option linter.unusedSimpArgs false
set_option linter.unusedVariables false

abbrev DPlanKind := ByteArray × Int × Int
def vPlanKind : View DPlanKind := vPair vStr (vPair vInt vInt)
theorem vPlanKind_size : vPlanKind.size = 3 := rfl

theorem cells_PlanKind {ok : Nat → Prop} {w : World} {c : List Value} {x : DPlanKind} (h : vPlanKind.rel ok w c x) :
    c = [.string x.1, .int .i64 x.2.1, .int .i64 x.2.2] ∧ x.1.size ≤ maxLen ∧ In64 x.2.1 ∧ In64 x.2.2 := by
  obtain ⟨c0, r0, rfl, ⟨rfl, p0⟩, c1, r1, rfl, ⟨rfl, p1⟩, rfl, p2⟩ := h
  exact ⟨rfl, p0, p1, p2⟩

theorem mk_PlanKind {ok : Nat → Prop} {w : World} {x : DPlanKind} (p0 : x.1.size ≤ maxLen) (p1 : In64 x.2.1) (p2 : In64 x.2.2) : vPlanKind.rel ok w [.string x.1, .int .i64 x.2.1, .int .i64 x.2.2] x :=
  ⟨[_], _, rfl, ⟨rfl, p0⟩, [_], _, rfl, ⟨rfl, p1⟩, rfl, p2⟩

theorem elem_PlanKind {ok : Nat → Prop} {w : World} {ao : Option Addr} {cap : Nat} {l : List DPlanKind} (h : SliceAt vPlanKind ok w ao cap l) {i : Nat} (hi : i < l.length) :
    ∃ b off, ao = some ⟨b, off, none⟩ ∧ ok b ∧ w.cell? ⟨b, off + i * 3, none⟩ = some (.string (l[i]'hi).1) ∧ w.cell? ⟨b, off + i * 3 + 1, none⟩ = some (.int .i64 (l[i]'hi).2.1) ∧ w.cell? ⟨b, off + i * 3 + 2, none⟩ = some (.int .i64 (l[i]'hi).2.2) ∧ (l[i]'hi).1.size ≤ maxLen ∧ In64 (l[i]'hi).2.1 ∧ In64 (l[i]'hi).2.2 := by
  obtain ⟨b, off, c, h1, h2, h3, h4⟩ := h.elem hi
  obtain ⟨rfl, p0, p1, p2⟩ := cells_PlanKind h3
  exact ⟨b, off, h1, h2, h4 0 (by decide), h4 1 (by decide), h4 2 (by decide), p0, p1, p2⟩

def wPlanKind (x : DPlanKind) : Nat := x.1.size
def wPlanKindS (l : List DPlanKind) : Nat := l.length + (l.map wPlanKind).sum

set_option maxHeartbeats 400000 in
theorem szPlanKind_any (x : DPlanKind) (L : Int) (w : World) (h0 : 0 ≤ L) (h1 : L ≤ 1048576) (p0 : x.1.size ≤ maxLen) :
    Calls Tryz.prog 88 #[.agg #[.string x.1, .int .i64 x.2.1, .int .i64 x.2.2], .int .i64 L] w fun e w' => e = .returned (.int .i64 (szR L (wPlanKind x))) ∧ Below w.heap.size w w' := by
  unfold maxLen at p0
  go_enter Tryz.func88, Tryz.ntmps88
  by_cases n0 : (x.1.size : Int) ≤ L
  · have HR : Hid (szR L (wPlanKind x) = L - x.1.size) := by
      have h : szR L (wPlanKind x) = L - (wPlanKind x : Nat) := szR_yes (by unfold wPlanKind; omega)
      show _ = _
      rw [h]; unfold wPlanKind; omega
    go_wp2
    go_ret
    exact ⟨by rw [HR.out]; rfl, by repeat (first | exact Below.refl _ _ | refine Below.alloc ?_ (by simp; try omega) _)⟩
  · have HR : Hid (szR L (wPlanKind x) = -1) := szR_no (by unfold wPlanKind; omega)
    go_wp2
    go_ret
    exact ⟨by rw [HR.out]; rfl, by repeat (first | exact Below.refl _ _ | refine Below.alloc ?_ (by simp; try omega) _)⟩

set_option maxHeartbeats 400000 in
theorem szPlanKindS_any (ao : Option Addr) (cap : Nat) (l : List DPlanKind) (L : Int) (w : World) (h0 : 0 ≤ L) (h1 : L ≤ 1048576) (h : SliceAt vPlanKind (old w) w ao cap l) :
    Calls Tryz.prog 53 #[.slice ao l.length cap, .int .i64 L] w fun e w' => e = .returned (.int .i64 (szR L (wPlanKindS l))) ∧ Below w.heap.size w w' := by
  have hcl := h.1
  have hcm : cap ≤ 9223372036854775807 := h.2.1
  by_cases hn : (l.length : Int) ≤ L
  · have hd : decide (L - (l.length : Int) < 0) = false := by simp; omega
    go_enter Tryz.func53, Tryz.ntmps53
    go_wp2
    go_loopw [1, 5] (fun a i wr => ∃ (k s : Nat), k ≤ l.length ∧ i = .int .i64 k ∧ a = .int .i64 (L - l.length - s) ∧ 0 ≤ L - l.length - s ∧ Hid (s = ((l.take k).map wPlanKind).sum) ∧ Below w.heap.size w wr) (fun _ i _ => l.length - (intOf i).toNat)
    case atStart => exact ⟨0, 0, Nat.zero_le _, rfl, by simp, by simp; omega, by show _ = _; simp, Below.refl _ _⟩
    case round =>
      obtain ⟨k, s, hk, rfl, rfl, hpos, hs, hb⟩ := hrel
      by_cases hlt : k < l.length
      · obtain ⟨b, off, rfl, hok, c0, c1, c2, p0, p1, p2⟩ := elem_PlanKind h hlt
        have d0 := (hb.cell (p := ⟨b, off + k * 3, none⟩) hok).trans c0
        have d1 := (hb.cell (p := ⟨b, off + k * 3 + 1, none⟩) hok).trans c1
        have d2 := (hb.cell (p := ⟨b, off + k * 3 + 2, none⟩) hok).trans c2
        have HS : Hid _ := sum_take wPlanKind l k hlt
        have HT : Hid _ := sum_le wPlanKind l (k + 1)
        generalize l[k] = x at *
        clear c0 c1 c2
        go_wp2_with fail
        refine (szPlanKind_any x _ _ hpos (by omega) p0).mono ?_
        rintro e w1 ⟨rfl, hb1⟩
        have hb2 := hb.trans (hb1.mono hb.size)
        by_cases hw : (wPlanKind x : Int) ≤ L - l.length - s
        · rw [szR_yes hw]
          have hs2 : Hid (s + wPlanKind x = ((l.take (k + 1)).map wPlanKind).sum) := by have h3 := HS.out; have h4 := hs.out; show _ = _; omega
          go_wp2
          go_roundw
          case rel => exact ⟨k + 1, s + wPlanKind x, by omega, by go_num, by go_num, by omega, hs2, hb2⟩
          case measure => simp [intOf]; omega
        · rw [szR_no hw]
          have hR : Hid (szR L (wPlanKindS l) = -1) := szR_no (by
            have h3 := HS.out; have h4 := hs.out; have h5 := HT.out
            unfold wPlanKindS; omega)
          go_wp2
          go_ret
          exact ⟨by rw [hR.out]; rfl, hb2⟩
      · have hR : Hid (szR L (wPlanKindS l) = L - l.length - s) := by
          have h4 := hs.out
          rw [List.take_of_length_le (by omega)] at h4
          have : szR L (wPlanKindS l) = L - (wPlanKindS l : Nat) := szR_yes (by unfold wPlanKindS; omega)
          show _ = _
          rw [this]; unfold wPlanKindS; omega
        go_wp2
        go_ret
        exact ⟨by rw [hR.out]; rfl, hb⟩
  · have hR : Hid (szR L (wPlanKindS l) = -1) := szR_no (by unfold wPlanKindS; omega)
    go_enter Tryz.func53, Tryz.ntmps53
    go_wp2
    go_ret
    exact ⟨by rw [hR.out]; rfl, Below.refl _ _⟩

theorem toPlanKind_any (x : DPlanKind) (w : World) :
    Calls Tryz.prog 95 #[.agg #[.string x.1, .int .i64 x.2.1, .int .i64 x.2.2]] w fun e w' => e = .returned (.agg #[.string x.1, .int .i64 x.2.1, .int .i64 x.2.2]) ∧ Below w.heap.size w w' := by
  go_enter Tryz.func95, Tryz.ntmps95
  go_wp2
  exact bodyPost_ret (v := .agg #[.string x.1, .int .i64 x.2.1, .int .i64 x.2.2]) (by simp [results, Tryz.results95, go_sem]) rfl ⟨rfl, by repeat (first | exact Below.refl _ _ | refine Below.alloc ?_ (by simp; try omega) _)⟩

theorem Tryz.info_PlanKind : (Tryz.prog.info? 31).map (fun i => (i.zero, i.size, i.bytes)) = some (some (.agg #[.string ByteArray.empty, .int .i64 0, .int .i64 0]), 3, 32) := by kernel_rfl

set_option maxHeartbeats 1000000 in
theorem toPlanKindS_any (ao : Option Addr) (cap : Nat) (l : List DPlanKind) (w : World) (hn : wPlanKindS l ≤ 1048576) (h : SliceAt vPlanKind (old w) w ao cap l) :
    Calls Tryz.prog 62 #[.slice ao l.length cap] w fun e w' => ∃ ao' cap', e = .returned (.slice ao' l.length cap') ∧ SliceAt vPlanKind (fresh w w') w' ao' cap' l ∧ Below w.heap.size w w' := by
  have hl : l.length ≤ 1048576 := by unfold wPlanKindS at hn; omega
  obtain ⟨i0, hi, hz0, hz1, hz2⟩ := info_parts Tryz.info_PlanKind
  go_enter Tryz.func62, Tryz.ntmps62
  go_wp2_with (at_make; refine wpList_make_full _ rfl _ _ 37 rfl w.heap.size 31 i0 _ 3 Tryz.underlying37 hi hz0 hz1 _ _ _ _ l.length rfl rfl rfl rfl ?c1 ?c2 ?c3 ?_)
  case c1 => rw [hz2]; omega
  case c2 => unfold maxLen; omega
  case c3 => exact Nat.le_refl _
  intro w1 hown hgr
  have hR0 : RowAt vPlanKind w1 w.heap.size 31 0 l := RowAt.start rfl hown
  have hB0 : Below w.heap.size w w1 := (Below.refl _ _).grown hgr (Nat.le_refl _) (by intro k hk; cases hk)
  clear hown hgr hi hz0 hz1 hz2
  go_wp2
  go_loopw [4] (fun i wr => ∃ k : Nat, k ≤ l.length ∧ i = .int .i64 k ∧ Below w.heap.size w wr ∧ RowAt vPlanKind wr w.heap.size 31 k l) (fun i _ => l.length - (intOf i).toNat)
  case atStart => exact ⟨0, Nat.zero_le _, rfl, hB0, hR0⟩
  case round =>
    obtain ⟨k, hk, rfl, hbel, hR⟩ := hrel
    by_cases hlt : k < l.length
    · obtain ⟨b, off, rfl, hok, c0, c1, c2, p0, p1, p2⟩ := elem_PlanKind h hlt
      have d0 := (hbel.cell (p := ⟨b, off + k * 3, none⟩) hok).trans c0
      have d1 := (hbel.cell (p := ⟨b, off + k * 3 + 1, none⟩) hok).trans c1
      have d2 := (hbel.cell (p := ⟨b, off + k * 3 + 2, none⟩) hok).trans c2
      clear c0 c1 c2 hR0 hB0
      go_wp2_with fail
      refine (toPlanKind_any _ _).mono ?_
      rintro e w2 ⟨rfl, hb2⟩
      have hR2 := hR.later hb2
      have hB2 := hbel.trans (hb2.mono hbel.size)
      have hR3 := hR2.store hlt (mk_PlanKind p0 p1 p2)
      have hB3 := put_below w.heap.size w.heap.size (Nat.le_refl _) [.string l[k].1, .int .i64 l[k].2.1, .int .i64 l[k].2.2] _ _ (k * 3) hB2
      obtain ⟨u0, e0⟩ := hR2.cell (i := k * 3) (by rw [vPlanKind_size]; omega)
      obtain ⟨u1, e1⟩ := hR2.cell (i := k * 3 + 1) (by rw [vPlanKind_size]; omega)
      obtain ⟨u2, e2⟩ := hR2.cell (i := k * 3 + 2) (by rw [vPlanKind_size]; omega)
      have f0 := hR2.free (k * 3)
      have f1 := hR2.free (k * 3 + 1)
      have f2 := hR2.free (k * 3 + 2)
      clear hR hR2 hB2 hb2
      go_wp2
      go_roundw
      case rel => exact ⟨k + 1, by omega, by go_num, hB3, hR3⟩
      case measure => simp [intOf]; omega
    · have hk2 : k = l.length := by omega
      subst hk2
      have hS := hR.done (by unfold maxLen; omega)
      go_wp2
      go_ret
      exact ⟨_, _, rfl, hS, hbel⟩

set_option maxHeartbeats 400000 in
theorem eqPlanKind_any (x : DPlanKind) (w : World) :
    Calls Tryz.prog 31 #[.agg #[.string x.1, .int .i64 x.2.1, .int .i64 x.2.2], .agg #[.string x.1, .int .i64 x.2.1, .int .i64 x.2.2]] w fun e w' => e = .returned (.bool true) ∧ Below w.heap.size w w' := by
  go_enter Tryz.func31, Tryz.ntmps31
  go_wp2
  go_ret
  exact ⟨rfl, by repeat (first | exact Below.refl _ _ | refine Below.alloc ?_ (by simp; try omega) _)⟩

set_option maxHeartbeats 1000000 in
theorem eqPlanKindS_any (ao bo : Option Addr) (ca cb : Nat) (l : List DPlanKind) (w : World) (hn : wPlanKindS l ≤ 1048576) (ha : SliceAt vPlanKind (old w) w ao ca l) (hb : SliceAt vPlanKind (old w) w bo cb l) :
    Calls Tryz.prog 71 #[.slice ao l.length ca, .slice bo l.length cb] w fun e w' => e = .returned (.bool true) ∧ Below w.heap.size w w' := by
  have hl : l.length ≤ 1048576 := by unfold wPlanKindS at hn; omega
  go_enter Tryz.func71, Tryz.ntmps71
  go_wp2
  go_loopw [5] (fun i wr => ∃ k : Nat, k ≤ l.length ∧ i = .int .i64 k ∧ Below w.heap.size w wr) (fun i _ => l.length - (intOf i).toNat)
  case atStart => exact ⟨0, Nat.zero_le _, rfl, Below.refl _ _⟩
  case round =>
    obtain ⟨k, hk, rfl, hbel⟩ := hrel
    by_cases hlt : k < l.length
    · obtain ⟨b, off, rfl, hok, c0, c1, c2, _, _, _⟩ := elem_PlanKind ha hlt
      obtain ⟨b', off', rfl, hok', c0', c1', c2', _, _, _⟩ := elem_PlanKind hb hlt
      have d0 := (hbel.cell (p := ⟨b, off + k * 3, none⟩) hok).trans c0
      have d1 := (hbel.cell (p := ⟨b, off + k * 3 + 1, none⟩) hok).trans c1
      have d2 := (hbel.cell (p := ⟨b, off + k * 3 + 2, none⟩) hok).trans c2
      have d0' := (hbel.cell (p := ⟨b', off' + k * 3, none⟩) hok').trans c0'
      have d1' := (hbel.cell (p := ⟨b', off' + k * 3 + 1, none⟩) hok').trans c1'
      have d2' := (hbel.cell (p := ⟨b', off' + k * 3 + 2, none⟩) hok').trans c2'
      generalize l[k] = x at *
      have hsz := hbel.size
      clear c0 c1 c2 c0' c1' c2' ha hb
      go_wp2
      go_region_with (go_at_call 31; refine (eqPlanKind_any _ _).mono ?_; rintro e w1 ⟨rfl, hb1⟩)
      all_goals
        go_wp2
        go_roundw
        case rel => exact ⟨k + 1, by omega, by go_num, hbel.trans (Below.trans (below_drewN (Below.refl _ _) 1) (hb1.mono hsz))⟩
        case measure => simp [intOf]; omega
    · go_wp2
      go_ret
      exact ⟨rfl, hbel⟩

end Go.Proofs.YtgnjkpmbppmoeaaGreat

/- DERIVED. By gv.py: data, view and the laws' own functions over PlanPoint. -/
namespace Go.Proofs.YtgnjkpmbppmoeaaGreat
open Go.RowKit
set_option linter.unusedSimpArgs false
set_option linter.unusedVariables false

abbrev DPlanPoint := ByteArray × Int × Int
def vPlanPoint : View DPlanPoint := vPair vStr (vPair vInt vInt)
theorem vPlanPoint_size : vPlanPoint.size = 3 := rfl

theorem cells_PlanPoint {ok : Nat → Prop} {w : World} {c : List Value} {x : DPlanPoint} (h : vPlanPoint.rel ok w c x) :
    c = [.string x.1, .int .i64 x.2.1, .int .i64 x.2.2] ∧ x.1.size ≤ maxLen ∧ In64 x.2.1 ∧ In64 x.2.2 := by
  obtain ⟨c0, r0, rfl, ⟨rfl, p0⟩, c1, r1, rfl, ⟨rfl, p1⟩, rfl, p2⟩ := h
  exact ⟨rfl, p0, p1, p2⟩

theorem mk_PlanPoint {ok : Nat → Prop} {w : World} {x : DPlanPoint} (p0 : x.1.size ≤ maxLen) (p1 : In64 x.2.1) (p2 : In64 x.2.2) : vPlanPoint.rel ok w [.string x.1, .int .i64 x.2.1, .int .i64 x.2.2] x :=
  ⟨[_], _, rfl, ⟨rfl, p0⟩, [_], _, rfl, ⟨rfl, p1⟩, rfl, p2⟩

theorem elem_PlanPoint {ok : Nat → Prop} {w : World} {ao : Option Addr} {cap : Nat} {l : List DPlanPoint} (h : SliceAt vPlanPoint ok w ao cap l) {i : Nat} (hi : i < l.length) :
    ∃ b off, ao = some ⟨b, off, none⟩ ∧ ok b ∧ w.cell? ⟨b, off + i * 3, none⟩ = some (.string (l[i]'hi).1) ∧ w.cell? ⟨b, off + i * 3 + 1, none⟩ = some (.int .i64 (l[i]'hi).2.1) ∧ w.cell? ⟨b, off + i * 3 + 2, none⟩ = some (.int .i64 (l[i]'hi).2.2) ∧ (l[i]'hi).1.size ≤ maxLen ∧ In64 (l[i]'hi).2.1 ∧ In64 (l[i]'hi).2.2 := by
  obtain ⟨b, off, c, h1, h2, h3, h4⟩ := h.elem hi
  obtain ⟨rfl, p0, p1, p2⟩ := cells_PlanPoint h3
  exact ⟨b, off, h1, h2, h4 0 (by decide), h4 1 (by decide), h4 2 (by decide), p0, p1, p2⟩

def wPlanPoint (x : DPlanPoint) : Nat := x.1.size
def wPlanPointS (l : List DPlanPoint) : Nat := l.length + (l.map wPlanPoint).sum

set_option maxHeartbeats 400000 in
theorem szPlanPoint_any (x : DPlanPoint) (L : Int) (w : World) (h0 : 0 ≤ L) (h1 : L ≤ 1048576) (p0 : x.1.size ≤ maxLen) :
    Calls Tryz.prog 89 #[.agg #[.string x.1, .int .i64 x.2.1, .int .i64 x.2.2], .int .i64 L] w fun e w' => e = .returned (.int .i64 (szR L (wPlanPoint x))) ∧ Below w.heap.size w w' := by
  unfold maxLen at p0
  go_enter Tryz.func89, Tryz.ntmps89
  by_cases n0 : (x.1.size : Int) ≤ L
  · have HR : Hid (szR L (wPlanPoint x) = L - x.1.size) := by
      have h : szR L (wPlanPoint x) = L - (wPlanPoint x : Nat) := szR_yes (by unfold wPlanPoint; omega)
      show _ = _
      rw [h]; unfold wPlanPoint; omega
    go_wp2
    go_ret
    exact ⟨by rw [HR.out]; rfl, by repeat (first | exact Below.refl _ _ | refine Below.alloc ?_ (by simp; try omega) _)⟩
  · have HR : Hid (szR L (wPlanPoint x) = -1) := szR_no (by unfold wPlanPoint; omega)
    go_wp2
    go_ret
    exact ⟨by rw [HR.out]; rfl, by repeat (first | exact Below.refl _ _ | refine Below.alloc ?_ (by simp; try omega) _)⟩

set_option maxHeartbeats 400000 in
theorem szPlanPointS_any (ao : Option Addr) (cap : Nat) (l : List DPlanPoint) (L : Int) (w : World) (h0 : 0 ≤ L) (h1 : L ≤ 1048576) (h : SliceAt vPlanPoint (old w) w ao cap l) :
    Calls Tryz.prog 54 #[.slice ao l.length cap, .int .i64 L] w fun e w' => e = .returned (.int .i64 (szR L (wPlanPointS l))) ∧ Below w.heap.size w w' := by
  have hcl := h.1
  have hcm : cap ≤ 9223372036854775807 := h.2.1
  by_cases hn : (l.length : Int) ≤ L
  · have hd : decide (L - (l.length : Int) < 0) = false := by simp; omega
    go_enter Tryz.func54, Tryz.ntmps54
    go_wp2
    go_loopw [1, 5] (fun a i wr => ∃ (k s : Nat), k ≤ l.length ∧ i = .int .i64 k ∧ a = .int .i64 (L - l.length - s) ∧ 0 ≤ L - l.length - s ∧ Hid (s = ((l.take k).map wPlanPoint).sum) ∧ Below w.heap.size w wr) (fun _ i _ => l.length - (intOf i).toNat)
    case atStart => exact ⟨0, 0, Nat.zero_le _, rfl, by simp, by simp; omega, by show _ = _; simp, Below.refl _ _⟩
    case round =>
      obtain ⟨k, s, hk, rfl, rfl, hpos, hs, hb⟩ := hrel
      by_cases hlt : k < l.length
      · obtain ⟨b, off, rfl, hok, c0, c1, c2, p0, p1, p2⟩ := elem_PlanPoint h hlt
        have d0 := (hb.cell (p := ⟨b, off + k * 3, none⟩) hok).trans c0
        have d1 := (hb.cell (p := ⟨b, off + k * 3 + 1, none⟩) hok).trans c1
        have d2 := (hb.cell (p := ⟨b, off + k * 3 + 2, none⟩) hok).trans c2
        have HS : Hid _ := sum_take wPlanPoint l k hlt
        have HT : Hid _ := sum_le wPlanPoint l (k + 1)
        generalize l[k] = x at *
        clear c0 c1 c2
        go_wp2_with fail
        refine (szPlanPoint_any x _ _ hpos (by omega) p0).mono ?_
        rintro e w1 ⟨rfl, hb1⟩
        have hb2 := hb.trans (hb1.mono hb.size)
        by_cases hw : (wPlanPoint x : Int) ≤ L - l.length - s
        · rw [szR_yes hw]
          have hs2 : Hid (s + wPlanPoint x = ((l.take (k + 1)).map wPlanPoint).sum) := by have h3 := HS.out; have h4 := hs.out; show _ = _; omega
          go_wp2
          go_roundw
          case rel => exact ⟨k + 1, s + wPlanPoint x, by omega, by go_num, by go_num, by omega, hs2, hb2⟩
          case measure => simp [intOf]; omega
        · rw [szR_no hw]
          have hR : Hid (szR L (wPlanPointS l) = -1) := szR_no (by
            have h3 := HS.out; have h4 := hs.out; have h5 := HT.out
            unfold wPlanPointS; omega)
          go_wp2
          go_ret
          exact ⟨by rw [hR.out]; rfl, hb2⟩
      · have hR : Hid (szR L (wPlanPointS l) = L - l.length - s) := by
          have h4 := hs.out
          rw [List.take_of_length_le (by omega)] at h4
          have : szR L (wPlanPointS l) = L - (wPlanPointS l : Nat) := szR_yes (by unfold wPlanPointS; omega)
          show _ = _
          rw [this]; unfold wPlanPointS; omega
        go_wp2
        go_ret
        exact ⟨by rw [hR.out]; rfl, hb⟩
  · have hR : Hid (szR L (wPlanPointS l) = -1) := szR_no (by unfold wPlanPointS; omega)
    go_enter Tryz.func54, Tryz.ntmps54
    go_wp2
    go_ret
    exact ⟨by rw [hR.out]; rfl, Below.refl _ _⟩

theorem toPlanPoint_any (x : DPlanPoint) (w : World) :
    Calls Tryz.prog 96 #[.agg #[.string x.1, .int .i64 x.2.1, .int .i64 x.2.2]] w fun e w' => e = .returned (.agg #[.string x.1, .int .i64 x.2.1, .int .i64 x.2.2]) ∧ Below w.heap.size w w' := by
  go_enter Tryz.func96, Tryz.ntmps96
  go_wp2
  exact bodyPost_ret (v := .agg #[.string x.1, .int .i64 x.2.1, .int .i64 x.2.2]) (by simp [results, Tryz.results96, go_sem]) rfl ⟨rfl, by repeat (first | exact Below.refl _ _ | refine Below.alloc ?_ (by simp; try omega) _)⟩

theorem Tryz.info_PlanPoint : (Tryz.prog.info? 93).map (fun i => (i.zero, i.size, i.bytes)) = some (some (.agg #[.string ByteArray.empty, .int .i64 0, .int .i64 0]), 3, 32) := by kernel_rfl

set_option maxHeartbeats 1000000 in
theorem toPlanPointS_any (ao : Option Addr) (cap : Nat) (l : List DPlanPoint) (w : World) (hn : wPlanPointS l ≤ 1048576) (h : SliceAt vPlanPoint (old w) w ao cap l) :
    Calls Tryz.prog 63 #[.slice ao l.length cap] w fun e w' => ∃ ao' cap', e = .returned (.slice ao' l.length cap') ∧ SliceAt vPlanPoint (fresh w w') w' ao' cap' l ∧ Below w.heap.size w w' := by
  have hl : l.length ≤ 1048576 := by unfold wPlanPointS at hn; omega
  obtain ⟨i0, hi, hz0, hz1, hz2⟩ := info_parts Tryz.info_PlanPoint
  go_enter Tryz.func63, Tryz.ntmps63
  go_wp2_with (at_make; refine wpList_make_full _ rfl _ _ 38 rfl w.heap.size 93 i0 _ 3 Tryz.underlying38 hi hz0 hz1 _ _ _ _ l.length rfl rfl rfl rfl ?c1 ?c2 ?c3 ?_)
  case c1 => rw [hz2]; omega
  case c2 => unfold maxLen; omega
  case c3 => exact Nat.le_refl _
  intro w1 hown hgr
  have hR0 : RowAt vPlanPoint w1 w.heap.size 93 0 l := RowAt.start rfl hown
  have hB0 : Below w.heap.size w w1 := (Below.refl _ _).grown hgr (Nat.le_refl _) (by intro k hk; cases hk)
  clear hown hgr hi hz0 hz1 hz2
  go_wp2
  go_loopw [4] (fun i wr => ∃ k : Nat, k ≤ l.length ∧ i = .int .i64 k ∧ Below w.heap.size w wr ∧ RowAt vPlanPoint wr w.heap.size 93 k l) (fun i _ => l.length - (intOf i).toNat)
  case atStart => exact ⟨0, Nat.zero_le _, rfl, hB0, hR0⟩
  case round =>
    obtain ⟨k, hk, rfl, hbel, hR⟩ := hrel
    by_cases hlt : k < l.length
    · obtain ⟨b, off, rfl, hok, c0, c1, c2, p0, p1, p2⟩ := elem_PlanPoint h hlt
      have d0 := (hbel.cell (p := ⟨b, off + k * 3, none⟩) hok).trans c0
      have d1 := (hbel.cell (p := ⟨b, off + k * 3 + 1, none⟩) hok).trans c1
      have d2 := (hbel.cell (p := ⟨b, off + k * 3 + 2, none⟩) hok).trans c2
      clear c0 c1 c2 hR0 hB0
      go_wp2_with fail
      refine (toPlanPoint_any _ _).mono ?_
      rintro e w2 ⟨rfl, hb2⟩
      have hR2 := hR.later hb2
      have hB2 := hbel.trans (hb2.mono hbel.size)
      have hR3 := hR2.store hlt (mk_PlanPoint p0 p1 p2)
      have hB3 := put_below w.heap.size w.heap.size (Nat.le_refl _) [.string l[k].1, .int .i64 l[k].2.1, .int .i64 l[k].2.2] _ _ (k * 3) hB2
      obtain ⟨u0, e0⟩ := hR2.cell (i := k * 3) (by rw [vPlanPoint_size]; omega)
      obtain ⟨u1, e1⟩ := hR2.cell (i := k * 3 + 1) (by rw [vPlanPoint_size]; omega)
      obtain ⟨u2, e2⟩ := hR2.cell (i := k * 3 + 2) (by rw [vPlanPoint_size]; omega)
      have f0 := hR2.free (k * 3)
      have f1 := hR2.free (k * 3 + 1)
      have f2 := hR2.free (k * 3 + 2)
      clear hR hR2 hB2 hb2
      go_wp2
      go_roundw
      case rel => exact ⟨k + 1, by omega, by go_num, hB3, hR3⟩
      case measure => simp [intOf]; omega
    · have hk2 : k = l.length := by omega
      subst hk2
      have hS := hR.done (by unfold maxLen; omega)
      go_wp2
      go_ret
      exact ⟨_, _, rfl, hS, hbel⟩

set_option maxHeartbeats 400000 in
theorem eqPlanPoint_any (x : DPlanPoint) (w : World) :
    Calls Tryz.prog 105 #[.agg #[.string x.1, .int .i64 x.2.1, .int .i64 x.2.2], .agg #[.string x.1, .int .i64 x.2.1, .int .i64 x.2.2]] w fun e w' => e = .returned (.bool true) ∧ Below w.heap.size w w' := by
  go_enter Tryz.func105, Tryz.ntmps105
  go_wp2
  go_ret
  exact ⟨rfl, by repeat (first | exact Below.refl _ _ | refine Below.alloc ?_ (by simp; try omega) _)⟩

set_option maxHeartbeats 1000000 in
theorem eqPlanPointS_any (ao bo : Option Addr) (ca cb : Nat) (l : List DPlanPoint) (w : World) (hn : wPlanPointS l ≤ 1048576) (ha : SliceAt vPlanPoint (old w) w ao ca l) (hb : SliceAt vPlanPoint (old w) w bo cb l) :
    Calls Tryz.prog 72 #[.slice ao l.length ca, .slice bo l.length cb] w fun e w' => e = .returned (.bool true) ∧ Below w.heap.size w w' := by
  have hl : l.length ≤ 1048576 := by unfold wPlanPointS at hn; omega
  go_enter Tryz.func72, Tryz.ntmps72
  go_wp2
  go_loopw [5] (fun i wr => ∃ k : Nat, k ≤ l.length ∧ i = .int .i64 k ∧ Below w.heap.size w wr) (fun i _ => l.length - (intOf i).toNat)
  case atStart => exact ⟨0, Nat.zero_le _, rfl, Below.refl _ _⟩
  case round =>
    obtain ⟨k, hk, rfl, hbel⟩ := hrel
    by_cases hlt : k < l.length
    · obtain ⟨b, off, rfl, hok, c0, c1, c2, _, _, _⟩ := elem_PlanPoint ha hlt
      obtain ⟨b', off', rfl, hok', c0', c1', c2', _, _, _⟩ := elem_PlanPoint hb hlt
      have d0 := (hbel.cell (p := ⟨b, off + k * 3, none⟩) hok).trans c0
      have d1 := (hbel.cell (p := ⟨b, off + k * 3 + 1, none⟩) hok).trans c1
      have d2 := (hbel.cell (p := ⟨b, off + k * 3 + 2, none⟩) hok).trans c2
      have d0' := (hbel.cell (p := ⟨b', off' + k * 3, none⟩) hok').trans c0'
      have d1' := (hbel.cell (p := ⟨b', off' + k * 3 + 1, none⟩) hok').trans c1'
      have d2' := (hbel.cell (p := ⟨b', off' + k * 3 + 2, none⟩) hok').trans c2'
      generalize l[k] = x at *
      have hsz := hbel.size
      clear c0 c1 c2 c0' c1' c2' ha hb
      go_wp2
      go_region_with (go_at_call 105; refine (eqPlanPoint_any _ _).mono ?_; rintro e w1 ⟨rfl, hb1⟩)
      all_goals
        go_wp2
        go_roundw
        case rel => exact ⟨k + 1, by omega, by go_num, hbel.trans (Below.trans (below_drewN (Below.refl _ _) 1) (hb1.mono hsz))⟩
        case measure => simp [intOf]; omega
    · go_wp2
      go_ret
      exact ⟨rfl, hbel⟩

end Go.Proofs.YtgnjkpmbppmoeaaGreat

/- DERIVED. By gv.py: data, view and the laws' own functions over PlanBase. -/
namespace Go.Proofs.YtgnjkpmbppmoeaaGreat
open Go.RowKit
set_option linter.unusedSimpArgs false
set_option linter.unusedVariables false

abbrev DPlanBase := List DPlanKind × List DPlanPoint
def vPlanBase : View DPlanBase := vPair (vSlice vPlanKind) (vSlice vPlanPoint)
theorem vPlanBase_size : vPlanBase.size = 2 := rfl

theorem cells_PlanBase {ok : Nat → Prop} {w : World} {c : List Value} {x : DPlanBase} (h : vPlanBase.rel ok w c x) :
    ∃ ao0 cap0, ∃ ao1 cap1, c = [.slice ao0 x.1.length cap0, .slice ao1 x.2.length cap1] ∧ SliceAt vPlanKind ok w ao0 cap0 x.1 ∧ SliceAt vPlanPoint ok w ao1 cap1 x.2 := by
  obtain ⟨c0, r0, rfl, ⟨ao0, cap0, rfl, p0⟩, ao1, cap1, rfl, p1⟩ := h
  exact ⟨ao0, cap0, ao1, cap1, rfl, p0, p1⟩

theorem mk_PlanBase {ok : Nat → Prop} {w : World} {x : DPlanBase} {ao0 : Option Addr} {cap0 : Nat} {ao1 : Option Addr} {cap1 : Nat} (p0 : SliceAt vPlanKind ok w ao0 cap0 x.1) (p1 : SliceAt vPlanPoint ok w ao1 cap1 x.2) : vPlanBase.rel ok w [.slice ao0 x.1.length cap0, .slice ao1 x.2.length cap1] x :=
  ⟨[_], _, rfl, ⟨_, _, rfl, p0⟩, _, _, rfl, p1⟩

theorem elem_PlanBase {ok : Nat → Prop} {w : World} {ao : Option Addr} {cap : Nat} {l : List DPlanBase} (h : SliceAt vPlanBase ok w ao cap l) {i : Nat} (hi : i < l.length) :
    ∃ b off, ∃ ao0 cap0, ∃ ao1 cap1, ao = some ⟨b, off, none⟩ ∧ ok b ∧ w.cell? ⟨b, off + i * 2, none⟩ = some (.slice ao0 (l[i]'hi).1.length cap0) ∧ w.cell? ⟨b, off + i * 2 + 1, none⟩ = some (.slice ao1 (l[i]'hi).2.length cap1) ∧ SliceAt vPlanKind ok w ao0 cap0 (l[i]'hi).1 ∧ SliceAt vPlanPoint ok w ao1 cap1 (l[i]'hi).2 := by
  obtain ⟨b, off, c, h1, h2, h3, h4⟩ := h.elem hi
  obtain ⟨ao0, cap0, ao1, cap1, rfl, p0, p1⟩ := cells_PlanBase h3
  exact ⟨b, off, ao0, cap0, ao1, cap1, h1, h2, h4 0 (by decide), h4 1 (by decide), p0, p1⟩

def wPlanBase (x : DPlanBase) : Nat := wPlanKindS x.1 + wPlanPointS x.2
def wPlanBaseS (l : List DPlanBase) : Nat := l.length + (l.map wPlanBase).sum

set_option maxHeartbeats 400000 in
theorem szPlanBase_any (x : DPlanBase) (ao0 : Option Addr) (cap0 : Nat) (ao1 : Option Addr) (cap1 : Nat) (L : Int) (w : World) (h0 : 0 ≤ L) (h1 : L ≤ 1048576) (p0 : SliceAt vPlanKind (old w) w ao0 cap0 x.1) (p1 : SliceAt vPlanPoint (old w) w ao1 cap1 x.2) :
    Calls Tryz.prog 22 #[.agg #[.slice ao0 x.1.length cap0, .slice ao1 x.2.length cap1], .int .i64 L] w fun e w' => e = .returned (.int .i64 (szR L (wPlanBase x))) ∧ Below w.heap.size w w' := by
  go_enter Tryz.func22, Tryz.ntmps22
  go_wp2_with fail
  refine (szPlanKindS_any _ _ _ _ _ (by omega) (by omega) (p0.later (by repeat (first | exact Below.refl _ _ | refine Below.alloc ?_ (by simp; try omega) _)))).mono ?_
  rintro e w0 ⟨rfl, g0⟩
  have b0 : Below w.heap.size w w0 := Below.trans (by repeat (first | exact Below.refl _ _ | refine Below.alloc ?_ (by simp; try omega) _)) (g0.mono (by first | exact Nat.le_refl _ | (simp; done) | (simp; omega) | exact b0.size))
  obtain ⟨hc0, hf0⟩ := bcell g0
  have z0 := g0.size
  try simp at z0 hc0 hf0
  have y0 : w.heap.size < w0.heap.size := by omega
  by_cases n0 : ((wPlanKindS x.1 : Nat) : Int) ≤ L
  · rw [szR_yes n0]
    go_wp2_with fail
    refine (szPlanPointS_any _ _ _ _ _ (by omega) (by omega) (p1.later (b0))).mono ?_
    rintro e w1 ⟨rfl, g1⟩
    have b1 : Below w.heap.size w w1 := Below.trans (b0) (g1.mono (by first | exact Nat.le_refl _ | (simp; done) | (simp; omega) | exact b0.size))
    obtain ⟨hc1, hf1⟩ := bcell g1
    have z1 := g1.size
    try simp at z1 hc1 hf1
    have y1 : w.heap.size < w1.heap.size := by omega
    by_cases n1 : ((wPlanPointS x.2 : Nat) : Int) ≤ L - (wPlanKindS x.1 : Nat)
    · rw [szR_yes n1]
      have HR : Hid (szR L (wPlanBase x) = L - (wPlanKindS x.1 : Nat) - (wPlanPointS x.2 : Nat)) := by
        have h : szR L (wPlanBase x) = L - (wPlanBase x : Nat) := szR_yes (by unfold wPlanBase; omega)
        show _ = _
        rw [h]; unfold wPlanBase; omega
      go_wp2
      go_ret
      exact ⟨by rw [HR.out]; rfl, b1⟩
    · rw [szR_no n1]
      have HR : Hid (szR L (wPlanBase x) = -1) := szR_no (by unfold wPlanBase; omega)
      go_wp2
      go_ret
      exact ⟨by rw [HR.out]; rfl, b1⟩
  · rw [szR_no n0]
    have HR : Hid (szR L (wPlanBase x) = -1) := szR_no (by unfold wPlanBase; omega)
    go_wp2
    go_ret
    exact ⟨by rw [HR.out]; rfl, b0⟩

set_option maxHeartbeats 1000000 in
theorem toPlanBase_any (x : DPlanBase) (ao0 : Option Addr) (cap0 : Nat) (ao1 : Option Addr) (cap1 : Nat) (w : World) (p0 : SliceAt vPlanKind (old w) w ao0 cap0 x.1) (p1 : SliceAt vPlanPoint (old w) w ao1 cap1 x.2) (hn : wPlanBase x ≤ 1048576) :
    Calls Tryz.prog 27 #[.agg #[.slice ao0 x.1.length cap0, .slice ao1 x.2.length cap1]] w fun e w' => ∃ ao0' cap0', ∃ ao1' cap1', e = .returned (.agg #[.slice ao0' x.1.length cap0', .slice ao1' x.2.length cap1']) ∧ SliceAt vPlanKind (fresh w w') w' ao0' cap0' x.1 ∧ SliceAt vPlanPoint (fresh w w') w' ao1' cap1' x.2 ∧ Below w.heap.size w w' := by
  have s0 : wPlanKindS x.1 ≤ 1048576 := by unfold wPlanBase at hn; omega
  have s1 : wPlanPointS x.2 ≤ 1048576 := by unfold wPlanBase at hn; omega
  clear hn
  go_enter Tryz.func27, Tryz.ntmps27
  go_wp2_with fail
  have b0 : Below w.heap.size w (((w.alloc (.cells #[.slice ao0 x.1.length cap0, .slice ao1 x.2.length cap1] 25)).alloc (.cells #[.slice none 0 0, .slice none 0 0] 40)).alloc (.cells #[.slice none 0 0, .slice none 0 0] 40)) := (((Below.refl w.heap.size w).alloc (Nat.le_refl _) _).alloc (by simp) _).alloc (by simp; try omega) _
  refine (toPlanKindS_any ao0 cap0 x.1 _ s0 (p0.later b0)).mono ?_
  rintro e w0 ⟨ao0', cap0', rfl, q0, g0⟩
  have b0' := b0.trans (g0.mono b0.size)
  obtain ⟨hc0, hf0⟩ := bcell g0
  have z0 := g0.size
  try simp at z0 hc0 hf0
  have y00 : w.heap.size < w0.heap.size := by omega
  have y01 : w.heap.size + 1 < w0.heap.size := by omega
  have y02 : w.heap.size + 1 + 1 < w0.heap.size := by omega
  go_wp2_with fail
  have b1 : Below w.heap.size w (w0.setCell ⟨w.heap.size + 1 + 1, 0, none⟩ (.slice ao0' x.1.length cap0')) := (b0'.setCell (p := ⟨w.heap.size + 1 + 1, 0, none⟩) (by simp; try omega) _)
  refine (toPlanPointS_any ao1 cap1 x.2 _ s1 (p1.later b1)).mono ?_
  rintro e w1 ⟨ao1', cap1', rfl, q1, g1⟩
  have b1' := b1.trans (g1.mono b1.size)
  obtain ⟨hc1, hf1⟩ := bcell g1
  have z1 := g1.size
  try simp at z1 hc1 hf1
  have y10 : w.heap.size < w1.heap.size := by omega
  have y11 : w.heap.size + 1 < w1.heap.size := by omega
  have y12 : w.heap.size + 1 + 1 < w1.heap.size := by omega
  go_wp2
  refine bodyPost_ret (v := .agg #[.slice ao0' x.1.length cap0', .slice ao1' x.2.length cap1']) (by simp [results, Tryz.results27, go_sem, hc0, hf0, y00, y01, y02, hc1, hf1, y10, y11, y12]) rfl ⟨ao0', cap0', ao1', cap1', rfl, ?_, ?_, ?_⟩
  · refine SliceAt.mono (q0.stays ?_) ?_
    · intro b hb
      have hb1 := hb.1
      have hb2 := hb.2
      simp at hb1 hb2
      have hne1 : b ≠ w.heap.size + 1 := by omega
      have hne2 : b ≠ w.heap.size + 1 + 1 := by omega
      have hl1 : b < w0.heap.size := by omega
      have hk1 := g1.block b (by simpa using hl1)
      simp [Below.heap_setCell, hne1, hne2, hk1]
    · intro b hb
      have hb1 := hb.1
      have hb2 := hb.2
      simp at hb1 hb2
      exact ⟨by omega, by simp; omega⟩
  · refine SliceAt.mono (q1.stays ?_) ?_
    · intro b hb
      have hb1 := hb.1
      have hb2 := hb.2
      simp at hb1 hb2
      have hne1 : b ≠ w.heap.size + 1 := by omega
      have hne2 : b ≠ w.heap.size + 1 + 1 := by omega
      simp [Below.heap_setCell, hne1, hne2]
    · intro b hb
      have hb1 := hb.1
      have hb2 := hb.2
      simp at hb1 hb2
      exact ⟨by omega, by simp; omega⟩
  · repeat (first | refine Below.setCell ?_ (by simp; try omega) _ | exact b1')

set_option maxHeartbeats 400000 in
theorem eqPlanBase_any (x : DPlanBase) (ao0 : Option Addr) (cap0 : Nat) (ao1 : Option Addr) (cap1 : Nat) (ao0' : Option Addr) (cap0' : Nat) (ao1' : Option Addr) (cap1' : Nat) (w : World) (p0 : SliceAt vPlanKind (old w) w ao0 cap0 x.1) (p0' : SliceAt vPlanKind (old w) w ao0' cap0' x.1) (p1 : SliceAt vPlanPoint (old w) w ao1 cap1 x.2) (p1' : SliceAt vPlanPoint (old w) w ao1' cap1' x.2) (hn : wPlanBase x ≤ 1048576) :
    Calls Tryz.prog 33 #[.agg #[.slice ao0 x.1.length cap0, .slice ao1 x.2.length cap1], .agg #[.slice ao0' x.1.length cap0', .slice ao1' x.2.length cap1']] w fun e w' => e = .returned (.bool true) ∧ Below w.heap.size w w' := by
  have s0 : wPlanKindS x.1 ≤ 1048576 := by unfold wPlanBase at hn; omega
  have s1 : wPlanPointS x.2 ≤ 1048576 := by unfold wPlanBase at hn; omega
  clear hn
  go_enter Tryz.func33, Tryz.ntmps33
  go_wp2_with fail
  have b0 : Below w.heap.size w _ := ((Below.refl w.heap.size w).alloc (Nat.le_refl _) (.cells #[.slice ao0 x.1.length cap0, .slice ao1 x.2.length cap1] 40)).alloc (by simp) (.cells #[.slice ao0' x.1.length cap0', .slice ao1' x.2.length cap1'] 40)
  refine (eqPlanKindS_any ao0 ao0' cap0 cap0' x.1 _ s0 (p0.later b0) (p0'.later b0)).mono ?_
  rintro e w0 ⟨rfl, g0⟩
  have b0' := b0.trans (g0.mono b0.size)
  obtain ⟨hc0, hf0⟩ := bcell g0
  have z0 := g0.size
  try simp at z0 hc0 hf0
  have y00 : w.heap.size < w0.heap.size := by omega
  have y01 : w.heap.size + 1 < w0.heap.size := by omega
  go_wp2_with fail
  have b1 := b0'
  refine (eqPlanPointS_any ao1 ao1' cap1 cap1' x.2 _ s1 (p1.later b1) (p1'.later b1)).mono ?_
  rintro e w1 ⟨rfl, g1⟩
  have b1' := b1.trans (g1.mono b1.size)
  obtain ⟨hc1, hf1⟩ := bcell g1
  have z1 := g1.size
  try simp at z1 hc1 hf1
  have y10 : w.heap.size < w1.heap.size := by omega
  have y11 : w.heap.size + 1 < w1.heap.size := by omega
  go_wp2
  go_ret
  exact ⟨rfl, b1'⟩

end Go.Proofs.YtgnjkpmbppmoeaaGreat
