/- DERIVED. By gv.py: data, view and the laws' own functions over PlanPoint. -/
import Derived.Test.YtohgkiljdehefaaRows
import Derived.Test.YtohgkiljdehefaaVw1
namespace Go.Proofs.Ytohgkiljdehefaa
open Go.RowKit
set_option linter.unusedSimpArgs false
set_option linter.unusedVariables false

abbrev DPlanPoint := ByteArray × Int × Int
def vPlanPoint : View DPlanPoint := vPair vStr (vPair vInt vInt)
theorem vPlanPoint_size : vPlanPoint.size = 3 := rfl

theorem cells_PlanPoint {ok : Nat → Prop} {w : World} {c : List Value} {x : DPlanPoint} (h : vPlanPoint.rel ok w c x) :
    c = [.string x.1, .int .i64 x.2.1, .int .i64 x.2.2] ∧ x.1.size ≤ maxLen ∧ In64 x.2.1 ∧ In64 x.2.2 := by
  obtain ⟨c0, r0, rfl, ⟨rfl, p0⟩, c1, r1, rfl, ⟨rfl, p1⟩, rfl, p2⟩ := h
  exact ⟨rfl, p0, p1, p2⟩

theorem mk_PlanPoint {ok : Nat → Prop} {w : World} {x : DPlanPoint} (p0 : x.1.size ≤ maxLen) (p1 : In64 x.2.1) (p2 : In64 x.2.2) : vPlanPoint.rel ok w [.string x.1, .int .i64 x.2.1, .int .i64 x.2.2] x :=
  ⟨[_], _, rfl, ⟨rfl, p0⟩, [_], _, rfl, ⟨rfl, p1⟩, rfl, p2⟩

theorem elem_PlanPoint {ok : Nat → Prop} {w : World} {ao : Option Addr} {cap : Nat} {l : List DPlanPoint} (h : SliceAt vPlanPoint ok w ao cap l) {i : Nat} (hi : i < l.length) :
    ∃ b off, ao = some ⟨b, off, none⟩ ∧ ok b ∧ w.cell? ⟨b, off + i * 3, none⟩ = some (.string (l[i]'hi).1) ∧ w.cell? ⟨b, off + i * 3 + 1, none⟩ = some (.int .i64 (l[i]'hi).2.1) ∧ w.cell? ⟨b, off + i * 3 + 2, none⟩ = some (.int .i64 (l[i]'hi).2.2) ∧ (l[i]'hi).1.size ≤ maxLen ∧ In64 (l[i]'hi).2.1 ∧ In64 (l[i]'hi).2.2 := by
  obtain ⟨b, off, c, h1, h2, h3, h4⟩ := h.elem hi
  obtain ⟨rfl, p0, p1, p2⟩ := cells_PlanPoint h3
  exact ⟨b, off, h1, h2, h4 0 (by decide), h4 1 (by decide), h4 2 (by decide), p0, p1, p2⟩

def wPlanPoint (x : DPlanPoint) : Nat := x.1.size
def wPlanPointS (l : List DPlanPoint) : Nat := l.length + (l.map wPlanPoint).sum

set_option maxHeartbeats 400000 in
theorem szPlanPoint_any (x : DPlanPoint) (L : Int) (w : World) (h0 : 0 ≤ L) (h1 : L ≤ 1048576) (p0 : x.1.size ≤ maxLen) :
    Calls Try.prog 69 #[.agg #[.string x.1, .int .i64 x.2.1, .int .i64 x.2.2], .int .i64 L] w fun e w' => e = .returned (.int .i64 (szR L (wPlanPoint x))) ∧ Below w.heap.size w w' := by
  unfold maxLen at p0
  go_enter Try.func69, Try.ntmps69
  by_cases n0 : (x.1.size : Int) ≤ L
  · have HR : Hid (szR L (wPlanPoint x) = L - x.1.size) := by
      have h : szR L (wPlanPoint x) = L - (wPlanPoint x : Nat) := szR_yes (by unfold wPlanPoint; omega)
      show _ = _
      rw [h]; unfold wPlanPoint; omega
    go_wp2
    go_ret
    exact ⟨by rw [HR.out]; rfl, by repeat (first | exact Below.refl _ _ | refine Below.alloc ?_ (by simp; try omega) _)⟩
  · have HR : Hid (szR L (wPlanPoint x) = -1) := szR_no (by unfold wPlanPoint; omega)
    go_wp2
    go_ret
    exact ⟨by rw [HR.out]; rfl, by repeat (first | exact Below.refl _ _ | refine Below.alloc ?_ (by simp; try omega) _)⟩

set_option maxHeartbeats 400000 in
theorem szPlanPointS_any (ao : Option Addr) (cap : Nat) (l : List DPlanPoint) (L : Int) (w : World) (h0 : 0 ≤ L) (h1 : L ≤ 1048576) (h : SliceAt vPlanPoint (old w) w ao cap l) :
    Calls Try.prog 35 #[.slice ao l.length cap, .int .i64 L] w fun e w' => e = .returned (.int .i64 (szR L (wPlanPointS l))) ∧ Below w.heap.size w w' := by
  have hcl := h.1
  have hcm : cap ≤ 9223372036854775807 := h.2.1
  by_cases hn : (l.length : Int) ≤ L
  · have hd : decide (L - (l.length : Int) < 0) = false := by simp; omega
    go_enter Try.func35, Try.ntmps35
    go_wp2
    go_loopw [1, 5] (fun a i wr => ∃ (k s : Nat), k ≤ l.length ∧ i = .int .i64 k ∧ a = .int .i64 (L - l.length - s) ∧ 0 ≤ L - l.length - s ∧ Hid (s = ((l.take k).map wPlanPoint).sum) ∧ Below w.heap.size w wr) (fun _ i _ => l.length - (intOf i).toNat)
    case atStart => exact ⟨0, 0, Nat.zero_le _, rfl, by simp, by simp; omega, by show _ = _; simp, Below.refl _ _⟩
    case round =>
      obtain ⟨k, s, hk, rfl, rfl, hpos, hs, hb⟩ := hrel
      by_cases hlt : k < l.length
      · obtain ⟨b, off, rfl, hok, c0, c1, c2, p0, p1, p2⟩ := elem_PlanPoint h hlt
        have d0 := (hb.cell (p := ⟨b, off + k * 3, none⟩) hok).trans c0
        have d1 := (hb.cell (p := ⟨b, off + k * 3 + 1, none⟩) hok).trans c1
        have d2 := (hb.cell (p := ⟨b, off + k * 3 + 2, none⟩) hok).trans c2
        have HS : Hid _ := sum_take wPlanPoint l k hlt
        have HT : Hid _ := sum_le wPlanPoint l (k + 1)
        generalize l[k] = x at *
        clear c0 c1 c2
        go_wp2_with fail
        refine (szPlanPoint_any x _ _ hpos (by omega) p0).mono ?_
        rintro e w1 ⟨rfl, hb1⟩
        have hb2 := hb.trans (hb1.mono hb.size)
        by_cases hw : (wPlanPoint x : Int) ≤ L - l.length - s
        · rw [szR_yes hw]
          have hs2 : Hid (s + wPlanPoint x = ((l.take (k + 1)).map wPlanPoint).sum) := by have h3 := HS.out; have h4 := hs.out; show _ = _; omega
          go_wp2
          go_roundw
          case rel => exact ⟨k + 1, s + wPlanPoint x, by omega, by go_num, by go_num, by omega, hs2, hb2⟩
          case measure => simp [intOf]; omega
        · rw [szR_no hw]
          have hR : Hid (szR L (wPlanPointS l) = -1) := szR_no (by
            have h3 := HS.out; have h4 := hs.out; have h5 := HT.out
            unfold wPlanPointS; omega)
          go_wp2
          go_ret
          exact ⟨by rw [hR.out]; rfl, hb2⟩
      · have hR : Hid (szR L (wPlanPointS l) = L - l.length - s) := by
          have h4 := hs.out
          rw [List.take_of_length_le (by omega)] at h4
          have : szR L (wPlanPointS l) = L - (wPlanPointS l : Nat) := szR_yes (by unfold wPlanPointS; omega)
          show _ = _
          rw [this]; unfold wPlanPointS; omega
        go_wp2
        go_ret
        exact ⟨by rw [hR.out]; rfl, hb⟩
  · have hR : Hid (szR L (wPlanPointS l) = -1) := szR_no (by unfold wPlanPointS; omega)
    go_enter Try.func35, Try.ntmps35
    go_wp2
    go_ret
    exact ⟨by rw [hR.out]; rfl, Below.refl _ _⟩

theorem toPlanPoint_any (x : DPlanPoint) (w : World) :
    Calls Try.prog 71 #[.agg #[.string x.1, .int .i64 x.2.1, .int .i64 x.2.2]] w fun e w' => e = .returned (.agg #[.string x.1, .int .i64 x.2.1, .int .i64 x.2.2]) ∧ Below w.heap.size w w' := by
  go_enter Try.func71, Try.ntmps71
  go_wp2
  exact bodyPost_ret (v := .agg #[.string x.1, .int .i64 x.2.1, .int .i64 x.2.2]) (by simp [results, Try.results71, go_sem]) rfl ⟨rfl, by repeat (first | exact Below.refl _ _ | refine Below.alloc ?_ (by simp; try omega) _)⟩

theorem Try.info_PlanPoint : (Try.prog.info? 73).map (fun i => (i.zero, i.size, i.bytes)) = some (some (.agg #[.string ByteArray.empty, .int .i64 0, .int .i64 0]), 3, 32) := by kernel_rfl

set_option maxHeartbeats 1000000 in
theorem toPlanPointS_any (ao : Option Addr) (cap : Nat) (l : List DPlanPoint) (w : World) (hn : wPlanPointS l ≤ 1048576) (h : SliceAt vPlanPoint (old w) w ao cap l) :
    Calls Try.prog 39 #[.slice ao l.length cap] w fun e w' => ∃ ao' cap', e = .returned (.slice ao' l.length cap') ∧ SliceAt vPlanPoint (fresh w w') w' ao' cap' l ∧ Below w.heap.size w w' := by
  have hl : l.length ≤ 1048576 := by unfold wPlanPointS at hn; omega
  obtain ⟨i0, hi, hz0, hz1, hz2⟩ := info_parts Try.info_PlanPoint
  go_enter Try.func39, Try.ntmps39
  go_wp2_with (at_make; refine wpList_make_full _ rfl _ _ 29 rfl w.heap.size 73 i0 _ 3 Try.underlying29 hi hz0 hz1 _ _ _ _ l.length rfl rfl rfl rfl ?c1 ?c2 ?c3 ?_)
  case c1 => rw [hz2]; omega
  case c2 => unfold maxLen; omega
  case c3 => exact Nat.le_refl _
  intro w1 hown hgr
  have hR0 : RowAt vPlanPoint w1 w.heap.size 73 0 l := RowAt.start rfl hown
  have hB0 : Below w.heap.size w w1 := (Below.refl _ _).grown hgr (Nat.le_refl _) (by intro k hk; cases hk)
  clear hown hgr hi hz0 hz1 hz2
  go_wp2
  go_loopw [4] (fun i wr => ∃ k : Nat, k ≤ l.length ∧ i = .int .i64 k ∧ Below w.heap.size w wr ∧ RowAt vPlanPoint wr w.heap.size 73 k l) (fun i _ => l.length - (intOf i).toNat)
  case atStart => exact ⟨0, Nat.zero_le _, rfl, hB0, hR0⟩
  case round =>
    obtain ⟨k, hk, rfl, hbel, hR⟩ := hrel
    by_cases hlt : k < l.length
    · obtain ⟨b, off, rfl, hok, c0, c1, c2, p0, p1, p2⟩ := elem_PlanPoint h hlt
      have d0 := (hbel.cell (p := ⟨b, off + k * 3, none⟩) hok).trans c0
      have d1 := (hbel.cell (p := ⟨b, off + k * 3 + 1, none⟩) hok).trans c1
      have d2 := (hbel.cell (p := ⟨b, off + k * 3 + 2, none⟩) hok).trans c2
      clear c0 c1 c2 hR0 hB0
      go_wp2_with fail
      refine (toPlanPoint_any _ _).mono ?_
      rintro e w2 ⟨rfl, hb2⟩
      have hR2 := hR.later hb2
      have hB2 := hbel.trans (hb2.mono hbel.size)
      have hR3 := hR2.store hlt (mk_PlanPoint p0 p1 p2)
      have hB3 := put_below w.heap.size w.heap.size (Nat.le_refl _) [.string l[k].1, .int .i64 l[k].2.1, .int .i64 l[k].2.2] _ _ (k * 3) hB2
      obtain ⟨u0, e0⟩ := hR2.cell (i := k * 3) (by rw [vPlanPoint_size]; omega)
      obtain ⟨u1, e1⟩ := hR2.cell (i := k * 3 + 1) (by rw [vPlanPoint_size]; omega)
      obtain ⟨u2, e2⟩ := hR2.cell (i := k * 3 + 2) (by rw [vPlanPoint_size]; omega)
      have f0 := hR2.free (k * 3)
      have f1 := hR2.free (k * 3 + 1)
      have f2 := hR2.free (k * 3 + 2)
      clear hR hR2 hB2 hb2
      go_wp2
      go_roundw
      case rel => exact ⟨k + 1, by omega, by go_num, hB3, hR3⟩
      case measure => simp [intOf]; omega
    · have hk2 : k = l.length := by omega
      subst hk2
      have hS := hR.done (by unfold maxLen; omega)
      go_wp2
      go_ret
      exact ⟨_, _, rfl, hS, hbel⟩

set_option maxHeartbeats 400000 in
theorem eqPlanPoint_any (x : DPlanPoint) (w : World) :
    Calls Try.prog 74 #[.agg #[.string x.1, .int .i64 x.2.1, .int .i64 x.2.2], .agg #[.string x.1, .int .i64 x.2.1, .int .i64 x.2.2]] w fun e w' => e = .returned (.bool true) ∧ Below w.heap.size w w' := by
  go_enter Try.func74, Try.ntmps74
  go_wp2
  go_ret
  exact ⟨rfl, by repeat (first | exact Below.refl _ _ | refine Below.alloc ?_ (by simp; try omega) _)⟩

set_option maxHeartbeats 1000000 in
theorem eqPlanPointS_any (ao bo : Option Addr) (ca cb : Nat) (l : List DPlanPoint) (w : World) (hn : wPlanPointS l ≤ 1048576) (ha : SliceAt vPlanPoint (old w) w ao ca l) (hb : SliceAt vPlanPoint (old w) w bo cb l) :
    Calls Try.prog 44 #[.slice ao l.length ca, .slice bo l.length cb] w fun e w' => e = .returned (.bool true) ∧ Below w.heap.size w w' := by
  have hl : l.length ≤ 1048576 := by unfold wPlanPointS at hn; omega
  go_enter Try.func44, Try.ntmps44
  go_wp2
  go_loopw [5] (fun i wr => ∃ k : Nat, k ≤ l.length ∧ i = .int .i64 k ∧ Below w.heap.size w wr) (fun i _ => l.length - (intOf i).toNat)
  case atStart => exact ⟨0, Nat.zero_le _, rfl, Below.refl _ _⟩
  case round =>
    obtain ⟨k, hk, rfl, hbel⟩ := hrel
    by_cases hlt : k < l.length
    · obtain ⟨b, off, rfl, hok, c0, c1, c2, _, _, _⟩ := elem_PlanPoint ha hlt
      obtain ⟨b', off', rfl, hok', c0', c1', c2', _, _, _⟩ := elem_PlanPoint hb hlt
      have d0 := (hbel.cell (p := ⟨b, off + k * 3, none⟩) hok).trans c0
      have d1 := (hbel.cell (p := ⟨b, off + k * 3 + 1, none⟩) hok).trans c1
      have d2 := (hbel.cell (p := ⟨b, off + k * 3 + 2, none⟩) hok).trans c2
      have d0' := (hbel.cell (p := ⟨b', off' + k * 3, none⟩) hok').trans c0'
      have d1' := (hbel.cell (p := ⟨b', off' + k * 3 + 1, none⟩) hok').trans c1'
      have d2' := (hbel.cell (p := ⟨b', off' + k * 3 + 2, none⟩) hok').trans c2'
      generalize l[k] = x at *
      have hsz := hbel.size
      clear c0 c1 c2 c0' c1' c2' ha hb
      go_wp2
      go_region_with (go_at_call 74; refine (eqPlanPoint_any _ _).mono ?_; rintro e w1 ⟨rfl, hb1⟩)
      all_goals
        go_wp2
        go_roundw
        case rel => exact ⟨k + 1, by omega, by go_num, hbel.trans (Below.trans (below_drewN (Below.refl _ _) 1) (hb1.mono hsz))⟩
        case measure => simp [intOf]; omega
    · go_wp2
      go_ret
      exact ⟨rfl, hbel⟩

end Go.Proofs.Ytohgkiljdehefaa
