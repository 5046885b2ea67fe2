/- DERIVED. By gv.py: data, view and the laws' own functions over PlanField. -/
import Derived.Test.YtohgkiljdehefaaRows
import Derived.Test.YtohgkiljdehefaaVw1
namespace Go.Proofs.Ytohgkiljdehefaa
open Go.RowKit
set_option linter.unusedSimpArgs false
set_option linter.unusedVariables false

abbrev DPlanField := Int × Int × ByteArray
def vPlanField : View DPlanField := vPair vInt (vPair vInt vStr)
theorem vPlanField_size : vPlanField.size = 3 := rfl

theorem cells_PlanField {ok : Nat → Prop} {w : World} {c : List Value} {x : DPlanField} (h : vPlanField.rel ok w c x) :
    c = [.int .i64 x.1, .int .i64 x.2.1, .string x.2.2] ∧ In64 x.1 ∧ In64 x.2.1 ∧ x.2.2.size ≤ maxLen := by
  obtain ⟨c0, r0, rfl, ⟨rfl, p0⟩, c1, r1, rfl, ⟨rfl, p1⟩, rfl, p2⟩ := h
  exact ⟨rfl, p0, p1, p2⟩

theorem mk_PlanField {ok : Nat → Prop} {w : World} {x : DPlanField} (p0 : In64 x.1) (p1 : In64 x.2.1) (p2 : x.2.2.size ≤ maxLen) : vPlanField.rel ok w [.int .i64 x.1, .int .i64 x.2.1, .string x.2.2] x :=
  ⟨[_], _, rfl, ⟨rfl, p0⟩, [_], _, rfl, ⟨rfl, p1⟩, rfl, p2⟩

theorem elem_PlanField {ok : Nat → Prop} {w : World} {ao : Option Addr} {cap : Nat} {l : List DPlanField} (h : SliceAt vPlanField ok w ao cap l) {i : Nat} (hi : i < l.length) :
    ∃ b off, ao = some ⟨b, off, none⟩ ∧ ok b ∧ w.cell? ⟨b, off + i * 3, none⟩ = some (.int .i64 (l[i]'hi).1) ∧ w.cell? ⟨b, off + i * 3 + 1, none⟩ = some (.int .i64 (l[i]'hi).2.1) ∧ w.cell? ⟨b, off + i * 3 + 2, none⟩ = some (.string (l[i]'hi).2.2) ∧ In64 (l[i]'hi).1 ∧ In64 (l[i]'hi).2.1 ∧ (l[i]'hi).2.2.size ≤ maxLen := by
  obtain ⟨b, off, c, h1, h2, h3, h4⟩ := h.elem hi
  obtain ⟨rfl, p0, p1, p2⟩ := cells_PlanField h3
  exact ⟨b, off, h1, h2, h4 0 (by decide), h4 1 (by decide), h4 2 (by decide), p0, p1, p2⟩

def wPlanField (x : DPlanField) : Nat := x.2.2.size
def wPlanFieldS (l : List DPlanField) : Nat := l.length + (l.map wPlanField).sum

set_option maxHeartbeats 400000 in
theorem szPlanField_any (x : DPlanField) (L : Int) (w : World) (h0 : 0 ≤ L) (h1 : L ≤ 1048576) (p2 : x.2.2.size ≤ maxLen) :
    Calls Try.prog 97 #[.agg #[.int .i64 x.1, .int .i64 x.2.1, .string x.2.2], .int .i64 L] w fun e w' => e = .returned (.int .i64 (szR L (wPlanField x))) ∧ Below w.heap.size w w' := by
  unfold maxLen at p2
  go_enter Try.func97, Try.ntmps97
  by_cases n2 : (x.2.2.size : Int) ≤ L
  · have HR : Hid (szR L (wPlanField x) = L - x.2.2.size) := by
      have h : szR L (wPlanField x) = L - (wPlanField x : Nat) := szR_yes (by unfold wPlanField; omega)
      show _ = _
      rw [h]; unfold wPlanField; omega
    go_wp2
    go_ret
    exact ⟨by rw [HR.out]; rfl, by repeat (first | exact Below.refl _ _ | refine Below.alloc ?_ (by simp; try omega) _)⟩
  · have HR : Hid (szR L (wPlanField x) = -1) := szR_no (by unfold wPlanField; omega)
    go_wp2
    go_ret
    exact ⟨by rw [HR.out]; rfl, by repeat (first | exact Below.refl _ _ | refine Below.alloc ?_ (by simp; try omega) _)⟩

set_option maxHeartbeats 400000 in
theorem szPlanFieldS_any (ao : Option Addr) (cap : Nat) (l : List DPlanField) (L : Int) (w : World) (h0 : 0 ≤ L) (h1 : L ≤ 1048576) (h : SliceAt vPlanField (old w) w ao cap l) :
    Calls Try.prog 91 #[.slice ao l.length cap, .int .i64 L] w fun e w' => e = .returned (.int .i64 (szR L (wPlanFieldS l))) ∧ Below w.heap.size w w' := by
  have hcl := h.1
  have hcm : cap ≤ 9223372036854775807 := h.2.1
  by_cases hn : (l.length : Int) ≤ L
  · have hd : decide (L - (l.length : Int) < 0) = false := by simp; omega
    go_enter Try.func91, Try.ntmps91
    go_wp2
    go_loopw [1, 5] (fun a i wr => ∃ (k s : Nat), k ≤ l.length ∧ i = .int .i64 k ∧ a = .int .i64 (L - l.length - s) ∧ 0 ≤ L - l.length - s ∧ Hid (s = ((l.take k).map wPlanField).sum) ∧ Below w.heap.size w wr) (fun _ i _ => l.length - (intOf i).toNat)
    case atStart => exact ⟨0, 0, Nat.zero_le _, rfl, by simp, by simp; omega, by show _ = _; simp, Below.refl _ _⟩
    case round =>
      obtain ⟨k, s, hk, rfl, rfl, hpos, hs, hb⟩ := hrel
      by_cases hlt : k < l.length
      · obtain ⟨b, off, rfl, hok, c0, c1, c2, p0, p1, p2⟩ := elem_PlanField h hlt
        have d0 := (hb.cell (p := ⟨b, off + k * 3, none⟩) hok).trans c0
        have d1 := (hb.cell (p := ⟨b, off + k * 3 + 1, none⟩) hok).trans c1
        have d2 := (hb.cell (p := ⟨b, off + k * 3 + 2, none⟩) hok).trans c2
        have HS : Hid _ := sum_take wPlanField l k hlt
        have HT : Hid _ := sum_le wPlanField l (k + 1)
        generalize l[k] = x at *
        clear c0 c1 c2
        go_wp2_with fail
        refine (szPlanField_any x _ _ hpos (by omega) p2).mono ?_
        rintro e w1 ⟨rfl, hb1⟩
        have hb2 := hb.trans (hb1.mono hb.size)
        by_cases hw : (wPlanField x : Int) ≤ L - l.length - s
        · rw [szR_yes hw]
          have hs2 : Hid (s + wPlanField x = ((l.take (k + 1)).map wPlanField).sum) := by have h3 := HS.out; have h4 := hs.out; show _ = _; omega
          go_wp2
          go_roundw
          case rel => exact ⟨k + 1, s + wPlanField x, by omega, by go_num, by go_num, by omega, hs2, hb2⟩
          case measure => simp [intOf]; omega
        · rw [szR_no hw]
          have hR : Hid (szR L (wPlanFieldS l) = -1) := szR_no (by
            have h3 := HS.out; have h4 := hs.out; have h5 := HT.out
            unfold wPlanFieldS; omega)
          go_wp2
          go_ret
          exact ⟨by rw [hR.out]; rfl, hb2⟩
      · have hR : Hid (szR L (wPlanFieldS l) = L - l.length - s) := by
          have h4 := hs.out
          rw [List.take_of_length_le (by omega)] at h4
          have : szR L (wPlanFieldS l) = L - (wPlanFieldS l : Nat) := szR_yes (by unfold wPlanFieldS; omega)
          show _ = _
          rw [this]; unfold wPlanFieldS; omega
        go_wp2
        go_ret
        exact ⟨by rw [hR.out]; rfl, hb⟩
  · have hR : Hid (szR L (wPlanFieldS l) = -1) := szR_no (by unfold wPlanFieldS; omega)
    go_enter Try.func91, Try.ntmps91
    go_wp2
    go_ret
    exact ⟨by rw [hR.out]; rfl, Below.refl _ _⟩

theorem toPlanField_any (x : DPlanField) (w : World) :
    Calls Try.prog 98 #[.agg #[.int .i64 x.1, .int .i64 x.2.1, .string x.2.2]] w fun e w' => e = .returned (.agg #[.int .i64 x.1, .int .i64 x.2.1, .string x.2.2]) ∧ Below w.heap.size w w' := by
  go_enter Try.func98, Try.ntmps98
  go_wp2
  exact bodyPost_ret (v := .agg #[.int .i64 x.1, .int .i64 x.2.1, .string x.2.2]) (by simp [results, Try.results98, go_sem]) rfl ⟨rfl, by repeat (first | exact Below.refl _ _ | refine Below.alloc ?_ (by simp; try omega) _)⟩

theorem Try.info_PlanField : (Try.prog.info? 125).map (fun i => (i.zero, i.size, i.bytes)) = some (some (.agg #[.int .i64 0, .int .i64 0, .string ByteArray.empty]), 3, 32) := by kernel_rfl

set_option maxHeartbeats 1000000 in
theorem toPlanFieldS_any (ao : Option Addr) (cap : Nat) (l : List DPlanField) (w : World) (hn : wPlanFieldS l ≤ 1048576) (h : SliceAt vPlanField (old w) w ao cap l) :
    Calls Try.prog 92 #[.slice ao l.length cap] w fun e w' => ∃ ao' cap', e = .returned (.slice ao' l.length cap') ∧ SliceAt vPlanField (fresh w w') w' ao' cap' l ∧ Below w.heap.size w w' := by
  have hl : l.length ≤ 1048576 := by unfold wPlanFieldS at hn; omega
  obtain ⟨i0, hi, hz0, hz1, hz2⟩ := info_parts Try.info_PlanField
  go_enter Try.func92, Try.ntmps92
  go_wp2_with (at_make; refine wpList_make_full _ rfl _ _ 90 rfl w.heap.size 125 i0 _ 3 Try.underlying90 hi hz0 hz1 _ _ _ _ l.length rfl rfl rfl rfl ?c1 ?c2 ?c3 ?_)
  case c1 => rw [hz2]; omega
  case c2 => unfold maxLen; omega
  case c3 => exact Nat.le_refl _
  intro w1 hown hgr
  have hR0 : RowAt vPlanField w1 w.heap.size 125 0 l := RowAt.start rfl hown
  have hB0 : Below w.heap.size w w1 := (Below.refl _ _).grown hgr (Nat.le_refl _) (by intro k hk; cases hk)
  clear hown hgr hi hz0 hz1 hz2
  go_wp2
  go_loopw [4] (fun i wr => ∃ k : Nat, k ≤ l.length ∧ i = .int .i64 k ∧ Below w.heap.size w wr ∧ RowAt vPlanField wr w.heap.size 125 k l) (fun i _ => l.length - (intOf i).toNat)
  case atStart => exact ⟨0, Nat.zero_le _, rfl, hB0, hR0⟩
  case round =>
    obtain ⟨k, hk, rfl, hbel, hR⟩ := hrel
    by_cases hlt : k < l.length
    · obtain ⟨b, off, rfl, hok, c0, c1, c2, p0, p1, p2⟩ := elem_PlanField h hlt
      have d0 := (hbel.cell (p := ⟨b, off + k * 3, none⟩) hok).trans c0
      have d1 := (hbel.cell (p := ⟨b, off + k * 3 + 1, none⟩) hok).trans c1
      have d2 := (hbel.cell (p := ⟨b, off + k * 3 + 2, none⟩) hok).trans c2
      clear c0 c1 c2 hR0 hB0
      go_wp2_with fail
      refine (toPlanField_any _ _).mono ?_
      rintro e w2 ⟨rfl, hb2⟩
      have hR2 := hR.later hb2
      have hB2 := hbel.trans (hb2.mono hbel.size)
      have hR3 := hR2.store hlt (mk_PlanField p0 p1 p2)
      have hB3 := put_below w.heap.size w.heap.size (Nat.le_refl _) [.int .i64 l[k].1, .int .i64 l[k].2.1, .string l[k].2.2] _ _ (k * 3) hB2
      obtain ⟨u0, e0⟩ := hR2.cell (i := k * 3) (by rw [vPlanField_size]; omega)
      obtain ⟨u1, e1⟩ := hR2.cell (i := k * 3 + 1) (by rw [vPlanField_size]; omega)
      obtain ⟨u2, e2⟩ := hR2.cell (i := k * 3 + 2) (by rw [vPlanField_size]; omega)
      have f0 := hR2.free (k * 3)
      have f1 := hR2.free (k * 3 + 1)
      have f2 := hR2.free (k * 3 + 2)
      clear hR hR2 hB2 hb2
      go_wp2
      go_roundw
      case rel => exact ⟨k + 1, by omega, by go_num, hB3, hR3⟩
      case measure => simp [intOf]; omega
    · have hk2 : k = l.length := by omega
      subst hk2
      have hS := hR.done (by unfold maxLen; omega)
      go_wp2
      go_ret
      exact ⟨_, _, rfl, hS, hbel⟩

set_option maxHeartbeats 400000 in
theorem eqPlanField_any (x : DPlanField) (w : World) :
    Calls Try.prog 99 #[.agg #[.int .i64 x.1, .int .i64 x.2.1, .string x.2.2], .agg #[.int .i64 x.1, .int .i64 x.2.1, .string x.2.2]] w fun e w' => e = .returned (.bool true) ∧ Below w.heap.size w w' := by
  go_enter Try.func99, Try.ntmps99
  go_wp2
  go_ret
  exact ⟨rfl, by repeat (first | exact Below.refl _ _ | refine Below.alloc ?_ (by simp; try omega) _)⟩

set_option maxHeartbeats 1000000 in
theorem eqPlanFieldS_any (ao bo : Option Addr) (ca cb : Nat) (l : List DPlanField) (w : World) (hn : wPlanFieldS l ≤ 1048576) (ha : SliceAt vPlanField (old w) w ao ca l) (hb : SliceAt vPlanField (old w) w bo cb l) :
    Calls Try.prog 93 #[.slice ao l.length ca, .slice bo l.length cb] w fun e w' => e = .returned (.bool true) ∧ Below w.heap.size w w' := by
  have hl : l.length ≤ 1048576 := by unfold wPlanFieldS at hn; omega
  go_enter Try.func93, Try.ntmps93
  go_wp2
  go_loopw [5] (fun i wr => ∃ k : Nat, k ≤ l.length ∧ i = .int .i64 k ∧ Below w.heap.size w wr) (fun i _ => l.length - (intOf i).toNat)
  case atStart => exact ⟨0, Nat.zero_le _, rfl, Below.refl _ _⟩
  case round =>
    obtain ⟨k, hk, rfl, hbel⟩ := hrel
    by_cases hlt : k < l.length
    · obtain ⟨b, off, rfl, hok, c0, c1, c2, _, _, _⟩ := elem_PlanField ha hlt
      obtain ⟨b', off', rfl, hok', c0', c1', c2', _, _, _⟩ := elem_PlanField hb hlt
      have d0 := (hbel.cell (p := ⟨b, off + k * 3, none⟩) hok).trans c0
      have d1 := (hbel.cell (p := ⟨b, off + k * 3 + 1, none⟩) hok).trans c1
      have d2 := (hbel.cell (p := ⟨b, off + k * 3 + 2, none⟩) hok).trans c2
      have d0' := (hbel.cell (p := ⟨b', off' + k * 3, none⟩) hok').trans c0'
      have d1' := (hbel.cell (p := ⟨b', off' + k * 3 + 1, none⟩) hok').trans c1'
      have d2' := (hbel.cell (p := ⟨b', off' + k * 3 + 2, none⟩) hok').trans c2'
      generalize l[k] = x at *
      have hsz := hbel.size
      clear c0 c1 c2 c0' c1' c2' ha hb
      go_wp2
      go_region_with (go_at_call 99; refine (eqPlanField_any _ _).mono ?_; rintro e w1 ⟨rfl, hb1⟩)
      all_goals
        go_wp2
        go_roundw
        case rel => exact ⟨k + 1, by omega, by go_num, hbel.trans (Below.trans (below_drewN (Below.refl _ _) 1) (hb1.mono hsz))⟩
        case measure => simp [intOf]; omega
    · go_wp2
      go_ret
      exact ⟨rfl, hbel⟩

end Go.Proofs.Ytohgkiljdehefaa
