/- DERIVED. By gv.py: data, view and the laws' own functions over PlanField. -/
import Derived.Test.YtgnjkpmbppmoeaaGreatRows
import Derived.Test.YtgnjkpmbppmoeaaGreatKGVw
import Derived.Test.YtgnjkpmbppmoeaaGreatKGVa
namespace Go.Proofs.YtgnjkpmbppmoeaaGreat
open Go.RowKit
set_option linter.unusedSimpArgs false
set_option linter.unusedVariables false

abbrev DPlanField := Int × Int × ByteArray
def vPlanField : View DPlanField := vPair vInt (vPair vInt vStr)
theorem vPlanField_size : vPlanField.size = 3 := rfl

theorem cells_PlanField {ok : Nat → Prop} {w : World} {c : List Value} {x : DPlanField} (h : vPlanField.rel ok w c x) :
    c = [.int .i64 x.1, .int .i64 x.2.1, .string x.2.2] ∧ In64 x.1 ∧ In64 x.2.1 ∧ x.2.2.size ≤ maxLen := by
  obtain ⟨c0, r0, rfl, ⟨rfl, p0⟩, c1, r1, rfl, ⟨rfl, p1⟩, rfl, p2⟩ := h
  exact ⟨rfl, p0, p1, p2⟩

theorem mk_PlanField {ok : Nat → Prop} {w : World} {x : DPlanField} (p0 : In64 x.1) (p1 : In64 x.2.1) (p2 : x.2.2.size ≤ maxLen) : vPlanField.rel ok w [.int .i64 x.1, .int .i64 x.2.1, .string x.2.2] x :=
  ⟨[_], _, rfl, ⟨rfl, p0⟩, [_], _, rfl, ⟨rfl, p1⟩, rfl, p2⟩

theorem elem_PlanField {ok : Nat → Prop} {w : World} {ao : Option Addr} {cap : Nat} {l : List DPlanField} (h : SliceAt vPlanField ok w ao cap l) {i : Nat} (hi : i < l.length) :
    ∃ b off, ao = some ⟨b, off, none⟩ ∧ ok b ∧ w.cell? ⟨b, off + i * 3, none⟩ = some (.int .i64 (l[i]'hi).1) ∧ w.cell? ⟨b, off + i * 3 + 1, none⟩ = some (.int .i64 (l[i]'hi).2.1) ∧ w.cell? ⟨b, off + i * 3 + 2, none⟩ = some (.string (l[i]'hi).2.2) ∧ In64 (l[i]'hi).1 ∧ In64 (l[i]'hi).2.1 ∧ (l[i]'hi).2.2.size ≤ maxLen := by
  obtain ⟨b, off, c, h1, h2, h3, h4⟩ := h.elem hi
  obtain ⟨rfl, p0, p1, p2⟩ := cells_PlanField h3
  exact ⟨b, off, h1, h2, h4 0 (by decide), h4 1 (by decide), h4 2 (by decide), p0, p1, p2⟩

def wPlanField (x : DPlanField) : Nat := x.2.2.size
def wPlanFieldS (l : List DPlanField) : Nat := l.length + (l.map wPlanField).sum

set_option maxHeartbeats 400000 in
theorem szPlanField_any (x : DPlanField) (L : Int) (w : World) (h0 : 0 ≤ L) (h1 : L ≤ 1048576) (p2 : x.2.2.size ≤ maxLen) :
    Calls Tryz.prog 112 #[.agg #[.int .i64 x.1, .int .i64 x.2.1, .string x.2.2], .int .i64 L] w fun e w' => e = .returned (.int .i64 (szR L (wPlanField x))) ∧ Below w.heap.size w w' := by
  unfold maxLen at p2
  go_enter Tryz.func112, Tryz.ntmps112
  by_cases n2 : (x.2.2.size : Int) ≤ L
  · have HR : Hid (szR L (wPlanField x) = L - x.2.2.size) := by
      have h : szR L (wPlanField x) = L - (wPlanField x : Nat) := szR_yes (by unfold wPlanField; omega)
      show _ = _
      rw [h]; unfold wPlanField; omega
    go_wp2
    go_ret
    exact ⟨by rw [HR.out]; rfl, by repeat (first | exact Below.refl _ _ | refine Below.alloc ?_ (by simp; try omega) _)⟩
  · have HR : Hid (szR L (wPlanField x) = -1) := szR_no (by unfold wPlanField; omega)
    go_wp2
    go_ret
    exact ⟨by rw [HR.out]; rfl, by repeat (first | exact Below.refl _ _ | refine Below.alloc ?_ (by simp; try omega) _)⟩

set_option maxHeartbeats 400000 in
theorem szPlanFieldS_any (ao : Option Addr) (cap : Nat) (l : List DPlanField) (L : Int) (w : World) (h0 : 0 ≤ L) (h1 : L ≤ 1048576) (h : SliceAt vPlanField (old w) w ao cap l) :
    Calls Tryz.prog 90 #[.slice ao l.length cap, .int .i64 L] w fun e w' => e = .returned (.int .i64 (szR L (wPlanFieldS l))) ∧ Below w.heap.size w w' := by
  have hcl := h.1
  have hcm : cap ≤ 9223372036854775807 := h.2.1
  by_cases hn : (l.length : Int) ≤ L
  · have hd : decide (L - (l.length : Int) < 0) = false := by simp; omega
    go_enter Tryz.func90, Tryz.ntmps90
    go_wp2
    go_loopw [1, 5] (fun a i wr => ∃ (k s : Nat), k ≤ l.length ∧ i = .int .i64 k ∧ a = .int .i64 (L - l.length - s) ∧ 0 ≤ L - l.length - s ∧ Hid (s = ((l.take k).map wPlanField).sum) ∧ Below w.heap.size w wr) (fun _ i _ => l.length - (intOf i).toNat)
    case atStart => exact ⟨0, 0, Nat.zero_le _, rfl, by simp, by simp; omega, by show _ = _; simp, Below.refl _ _⟩
    case round =>
      obtain ⟨k, s, hk, rfl, rfl, hpos, hs, hb⟩ := hrel
      by_cases hlt : k < l.length
      · obtain ⟨b, off, rfl, hok, c0, c1, c2, p0, p1, p2⟩ := elem_PlanField h hlt
        have d0 := (hb.cell (p := ⟨b, off + k * 3, none⟩) hok).trans c0
        have d1 := (hb.cell (p := ⟨b, off + k * 3 + 1, none⟩) hok).trans c1
        have d2 := (hb.cell (p := ⟨b, off + k * 3 + 2, none⟩) hok).trans c2
        have HS : Hid _ := sum_take wPlanField l k hlt
        have HT : Hid _ := sum_le wPlanField l (k + 1)
        generalize l[k] = x at *
        clear c0 c1 c2
        go_wp2_with fail
        refine (szPlanField_any x _ _ hpos (by omega) p2).mono ?_
        rintro e w1 ⟨rfl, hb1⟩
        have hb2 := hb.trans (hb1.mono hb.size)
        by_cases hw : (wPlanField x : Int) ≤ L - l.length - s
        · rw [szR_yes hw]
          have hs2 : Hid (s + wPlanField x = ((l.take (k + 1)).map wPlanField).sum) := by have h3 := HS.out; have h4 := hs.out; show _ = _; omega
          go_wp2
          go_roundw
          case rel => exact ⟨k + 1, s + wPlanField x, by omega, by go_num, by go_num, by omega, hs2, hb2⟩
          case measure => simp [intOf]; omega
        · rw [szR_no hw]
          have hR : Hid (szR L (wPlanFieldS l) = -1) := szR_no (by
            have h3 := HS.out; have h4 := hs.out; have h5 := HT.out
            unfold wPlanFieldS; omega)
          go_wp2
          go_ret
          exact ⟨by rw [hR.out]; rfl, hb2⟩
      · have hR : Hid (szR L (wPlanFieldS l) = L - l.length - s) := by
          have h4 := hs.out
          rw [List.take_of_length_le (by omega)] at h4
          have : szR L (wPlanFieldS l) = L - (wPlanFieldS l : Nat) := szR_yes (by unfold wPlanFieldS; omega)
          show _ = _
          rw [this]; unfold wPlanFieldS; omega
        go_wp2
        go_ret
        exact ⟨by rw [hR.out]; rfl, hb⟩
  · have hR : Hid (szR L (wPlanFieldS l) = -1) := szR_no (by unfold wPlanFieldS; omega)
    go_enter Tryz.func90, Tryz.ntmps90
    go_wp2
    go_ret
    exact ⟨by rw [hR.out]; rfl, Below.refl _ _⟩

theorem toPlanField_any (x : DPlanField) (w : World) :
    Calls Tryz.prog 114 #[.agg #[.int .i64 x.1, .int .i64 x.2.1, .string x.2.2]] w fun e w' => e = .returned (.agg #[.int .i64 x.1, .int .i64 x.2.1, .string x.2.2]) ∧ Below w.heap.size w w' := by
  go_enter Tryz.func114, Tryz.ntmps114
  go_wp2
  exact bodyPost_ret (v := .agg #[.int .i64 x.1, .int .i64 x.2.1, .string x.2.2]) (by simp [results, Tryz.results114, go_sem]) rfl ⟨rfl, by repeat (first | exact Below.refl _ _ | refine Below.alloc ?_ (by simp; try omega) _)⟩

theorem Tryz.info_PlanField : (Tryz.prog.info? 120).map (fun i => (i.zero, i.size, i.bytes)) = some (some (.agg #[.int .i64 0, .int .i64 0, .string ByteArray.empty]), 3, 32) := by kernel_rfl

set_option maxHeartbeats 1000000 in
theorem toPlanFieldS_any (ao : Option Addr) (cap : Nat) (l : List DPlanField) (w : World) (hn : wPlanFieldS l ≤ 1048576) (h : SliceAt vPlanField (old w) w ao cap l) :
    Calls Tryz.prog 97 #[.slice ao l.length cap] w fun e w' => ∃ ao' cap', e = .returned (.slice ao' l.length cap') ∧ SliceAt vPlanField (fresh w w') w' ao' cap' l ∧ Below w.heap.size w w' := by
  have hl : l.length ≤ 1048576 := by unfold wPlanFieldS at hn; omega
  obtain ⟨i0, hi, hz0, hz1, hz2⟩ := info_parts Tryz.info_PlanField
  go_enter Tryz.func97, Tryz.ntmps97
  go_wp2_with (at_make; refine wpList_make_full _ rfl _ _ 65 rfl w.heap.size 120 i0 _ 3 Tryz.underlying65 hi hz0 hz1 _ _ _ _ l.length rfl rfl rfl rfl ?c1 ?c2 ?c3 ?_)
  case c1 => rw [hz2]; omega
  case c2 => unfold maxLen; omega
  case c3 => exact Nat.le_refl _
  intro w1 hown hgr
  have hR0 : RowAt vPlanField w1 w.heap.size 120 0 l := RowAt.start rfl hown
  have hB0 : Below w.heap.size w w1 := (Below.refl _ _).grown hgr (Nat.le_refl _) (by intro k hk; cases hk)
  clear hown hgr hi hz0 hz1 hz2
  go_wp2
  go_loopw [4] (fun i wr => ∃ k : Nat, k ≤ l.length ∧ i = .int .i64 k ∧ Below w.heap.size w wr ∧ RowAt vPlanField wr w.heap.size 120 k l) (fun i _ => l.length - (intOf i).toNat)
  case atStart => exact ⟨0, Nat.zero_le _, rfl, hB0, hR0⟩
  case round =>
    obtain ⟨k, hk, rfl, hbel, hR⟩ := hrel
    by_cases hlt : k < l.length
    · obtain ⟨b, off, rfl, hok, c0, c1, c2, p0, p1, p2⟩ := elem_PlanField h hlt
      have d0 := (hbel.cell (p := ⟨b, off + k * 3, none⟩) hok).trans c0
      have d1 := (hbel.cell (p := ⟨b, off + k * 3 + 1, none⟩) hok).trans c1
      have d2 := (hbel.cell (p := ⟨b, off + k * 3 + 2, none⟩) hok).trans c2
      clear c0 c1 c2 hR0 hB0
      go_wp2_with fail
      refine (toPlanField_any _ _).mono ?_
      rintro e w2 ⟨rfl, hb2⟩
      have hR2 := hR.later hb2
      have hB2 := hbel.trans (hb2.mono hbel.size)
      have hR3 := hR2.store hlt (mk_PlanField p0 p1 p2)
      have hB3 := put_below w.heap.size w.heap.size (Nat.le_refl _) [.int .i64 l[k].1, .int .i64 l[k].2.1, .string l[k].2.2] _ _ (k * 3) hB2
      obtain ⟨u0, e0⟩ := hR2.cell (i := k * 3) (by rw [vPlanField_size]; omega)
      obtain ⟨u1, e1⟩ := hR2.cell (i := k * 3 + 1) (by rw [vPlanField_size]; omega)
      obtain ⟨u2, e2⟩ := hR2.cell (i := k * 3 + 2) (by rw [vPlanField_size]; omega)
      have f0 := hR2.free (k * 3)
      have f1 := hR2.free (k * 3 + 1)
      have f2 := hR2.free (k * 3 + 2)
      clear hR hR2 hB2 hb2
      go_wp2
      go_roundw
      case rel => exact ⟨k + 1, by omega, by go_num, hB3, hR3⟩
      case measure => simp [intOf]; omega
    · have hk2 : k = l.length := by omega
      subst hk2
      have hS := hR.done (by unfold maxLen; omega)
      go_wp2
      go_ret
      exact ⟨_, _, rfl, hS, hbel⟩

set_option maxHeartbeats 400000 in
theorem eqPlanField_any (x : DPlanField) (w : World) :
    Calls Tryz.prog 118 #[.agg #[.int .i64 x.1, .int .i64 x.2.1, .string x.2.2], .agg #[.int .i64 x.1, .int .i64 x.2.1, .string x.2.2]] w fun e w' => e = .returned (.bool true) ∧ Below w.heap.size w w' := by
  go_enter Tryz.func118, Tryz.ntmps118
  go_wp2
  go_ret
  exact ⟨rfl, by repeat (first | exact Below.refl _ _ | refine Below.alloc ?_ (by simp; try omega) _)⟩

set_option maxHeartbeats 1000000 in
theorem eqPlanFieldS_any (ao bo : Option Addr) (ca cb : Nat) (l : List DPlanField) (w : World) (hn : wPlanFieldS l ≤ 1048576) (ha : SliceAt vPlanField (old w) w ao ca l) (hb : SliceAt vPlanField (old w) w bo cb l) :
    Calls Tryz.prog 106 #[.slice ao l.length ca, .slice bo l.length cb] w fun e w' => e = .returned (.bool true) ∧ Below w.heap.size w w' := by
  have hl : l.length ≤ 1048576 := by unfold wPlanFieldS at hn; omega
  go_enter Tryz.func106, Tryz.ntmps106
  go_wp2
  go_loopw [5] (fun i wr => ∃ k : Nat, k ≤ l.length ∧ i = .int .i64 k ∧ Below w.heap.size w wr) (fun i _ => l.length - (intOf i).toNat)
  case atStart => exact ⟨0, Nat.zero_le _, rfl, Below.refl _ _⟩
  case round =>
    obtain ⟨k, hk, rfl, hbel⟩ := hrel
    by_cases hlt : k < l.length
    · obtain ⟨b, off, rfl, hok, c0, c1, c2, _, _, _⟩ := elem_PlanField ha hlt
      obtain ⟨b', off', rfl, hok', c0', c1', c2', _, _, _⟩ := elem_PlanField hb hlt
      have d0 := (hbel.cell (p := ⟨b, off + k * 3, none⟩) hok).trans c0
      have d1 := (hbel.cell (p := ⟨b, off + k * 3 + 1, none⟩) hok).trans c1
      have d2 := (hbel.cell (p := ⟨b, off + k * 3 + 2, none⟩) hok).trans c2
      have d0' := (hbel.cell (p := ⟨b', off' + k * 3, none⟩) hok').trans c0'
      have d1' := (hbel.cell (p := ⟨b', off' + k * 3 + 1, none⟩) hok').trans c1'
      have d2' := (hbel.cell (p := ⟨b', off' + k * 3 + 2, none⟩) hok').trans c2'
      generalize l[k] = x at *
      have hsz := hbel.size
      clear c0 c1 c2 c0' c1' c2' ha hb
      go_wp2
      go_region_with (go_at_call 118; refine (eqPlanField_any _ _).mono ?_; rintro e w1 ⟨rfl, hb1⟩)
      all_goals
        go_wp2
        go_roundw
        case rel => exact ⟨k + 1, by omega, by go_num, hbel.trans (Below.trans (below_drewN (Below.refl _ _) 1) (hb1.mono hsz))⟩
        case measure => simp [intOf]; omega
    · go_wp2
      go_ret
      exact ⟨rfl, hbel⟩

end Go.Proofs.YtgnjkpmbppmoeaaGreat

/- DERIVED. By gv.py: data, view and the laws' own functions over PlanEntry. -/
namespace Go.Proofs.YtgnjkpmbppmoeaaGreat
open Go.RowKit
set_option linter.unusedSimpArgs false
set_option linter.unusedVariables false

abbrev DPlanEntry := ByteArray × List DPlanField
def vPlanEntry : View DPlanEntry := vPair vStr (vSlice vPlanField)
theorem vPlanEntry_size : vPlanEntry.size = 2 := rfl

theorem cells_PlanEntry {ok : Nat → Prop} {w : World} {c : List Value} {x : DPlanEntry} (h : vPlanEntry.rel ok w c x) :
    ∃ ao1 cap1, c = [.string x.1, .slice ao1 x.2.length cap1] ∧ x.1.size ≤ maxLen ∧ SliceAt vPlanField ok w ao1 cap1 x.2 := by
  obtain ⟨c0, r0, rfl, ⟨rfl, p0⟩, ao1, cap1, rfl, p1⟩ := h
  exact ⟨ao1, cap1, rfl, p0, p1⟩

theorem mk_PlanEntry {ok : Nat → Prop} {w : World} {x : DPlanEntry} {ao1 : Option Addr} {cap1 : Nat} (p0 : x.1.size ≤ maxLen) (p1 : SliceAt vPlanField ok w ao1 cap1 x.2) : vPlanEntry.rel ok w [.string x.1, .slice ao1 x.2.length cap1] x :=
  ⟨[_], _, rfl, ⟨rfl, p0⟩, _, _, rfl, p1⟩

theorem elem_PlanEntry {ok : Nat → Prop} {w : World} {ao : Option Addr} {cap : Nat} {l : List DPlanEntry} (h : SliceAt vPlanEntry ok w ao cap l) {i : Nat} (hi : i < l.length) :
    ∃ b off, ∃ ao1 cap1, ao = some ⟨b, off, none⟩ ∧ ok b ∧ w.cell? ⟨b, off + i * 2, none⟩ = some (.string (l[i]'hi).1) ∧ w.cell? ⟨b, off + i * 2 + 1, none⟩ = some (.slice ao1 (l[i]'hi).2.length cap1) ∧ (l[i]'hi).1.size ≤ maxLen ∧ SliceAt vPlanField ok w ao1 cap1 (l[i]'hi).2 := by
  obtain ⟨b, off, c, h1, h2, h3, h4⟩ := h.elem hi
  obtain ⟨ao1, cap1, rfl, p0, p1⟩ := cells_PlanEntry h3
  exact ⟨b, off, ao1, cap1, h1, h2, h4 0 (by decide), h4 1 (by decide), p0, p1⟩

def wPlanEntry (x : DPlanEntry) : Nat := x.1.size + wPlanFieldS x.2
def wPlanEntryS (l : List DPlanEntry) : Nat := l.length + (l.map wPlanEntry).sum

set_option maxHeartbeats 400000 in
theorem szPlanEntry_any (x : DPlanEntry) (ao1 : Option Addr) (cap1 : Nat) (L : Int) (w : World) (h0 : 0 ≤ L) (h1 : L ≤ 1048576) (p0 : x.1.size ≤ maxLen) (p1 : SliceAt vPlanField (old w) w ao1 cap1 x.2) :
    Calls Tryz.prog 55 #[.agg #[.string x.1, .slice ao1 x.2.length cap1], .int .i64 L] w fun e w' => e = .returned (.int .i64 (szR L (wPlanEntry x))) ∧ Below w.heap.size w w' := by
  unfold maxLen at p0
  go_enter Tryz.func55, Tryz.ntmps55
  by_cases n0 : (x.1.size : Int) ≤ L
  · go_wp2_with fail
    refine (szPlanFieldS_any _ _ _ _ _ (by omega) (by omega) (p1.later (by repeat (first | exact Below.refl _ _ | refine Below.alloc ?_ (by simp; try omega) _)))).mono ?_
    rintro e w1 ⟨rfl, g1⟩
    have b1 : Below w.heap.size w w1 := Below.trans (by repeat (first | exact Below.refl _ _ | refine Below.alloc ?_ (by simp; try omega) _)) (g1.mono (by first | exact Nat.le_refl _ | (simp; done) | (simp; omega) | exact b1.size))
    obtain ⟨hc1, hf1⟩ := bcell g1
    have z1 := g1.size
    try simp at z1 hc1 hf1
    have y1 : w.heap.size < w1.heap.size := by omega
    by_cases n1 : ((wPlanFieldS x.2 : Nat) : Int) ≤ L - x.1.size
    · rw [szR_yes n1]
      have HR : Hid (szR L (wPlanEntry x) = L - x.1.size - (wPlanFieldS x.2 : Nat)) := by
        have h : szR L (wPlanEntry x) = L - (wPlanEntry x : Nat) := szR_yes (by unfold wPlanEntry; omega)
        show _ = _
        rw [h]; unfold wPlanEntry; omega
      go_wp2
      go_ret
      exact ⟨by rw [HR.out]; rfl, b1⟩
    · rw [szR_no n1]
      have HR : Hid (szR L (wPlanEntry x) = -1) := szR_no (by unfold wPlanEntry; omega)
      go_wp2
      go_ret
      exact ⟨by rw [HR.out]; rfl, b1⟩
  · have HR : Hid (szR L (wPlanEntry x) = -1) := szR_no (by unfold wPlanEntry; omega)
    go_wp2
    go_ret
    exact ⟨by rw [HR.out]; rfl, by repeat (first | exact Below.refl _ _ | refine Below.alloc ?_ (by simp; try omega) _)⟩

set_option maxHeartbeats 400000 in
theorem szPlanEntryS_any (ao : Option Addr) (cap : Nat) (l : List DPlanEntry) (L : Int) (w : World) (h0 : 0 ≤ L) (h1 : L ≤ 1048576) (h : SliceAt vPlanEntry (old w) w ao cap l) :
    Calls Tryz.prog 23 #[.slice ao l.length cap, .int .i64 L] w fun e w' => e = .returned (.int .i64 (szR L (wPlanEntryS l))) ∧ Below w.heap.size w w' := by
  have hcl := h.1
  have hcm : cap ≤ 9223372036854775807 := h.2.1
  by_cases hn : (l.length : Int) ≤ L
  · have hd : decide (L - (l.length : Int) < 0) = false := by simp; omega
    go_enter Tryz.func23, Tryz.ntmps23
    go_wp2
    go_loopw [1, 5] (fun a i wr => ∃ (k s : Nat), k ≤ l.length ∧ i = .int .i64 k ∧ a = .int .i64 (L - l.length - s) ∧ 0 ≤ L - l.length - s ∧ Hid (s = ((l.take k).map wPlanEntry).sum) ∧ Below w.heap.size w wr) (fun _ i _ => l.length - (intOf i).toNat)
    case atStart => exact ⟨0, 0, Nat.zero_le _, rfl, by simp, by simp; omega, by show _ = _; simp, Below.refl _ _⟩
    case round =>
      obtain ⟨k, s, hk, rfl, rfl, hpos, hs, hb⟩ := hrel
      by_cases hlt : k < l.length
      · obtain ⟨b, off, ao1, cap1, rfl, hok, c0, c1, p0, p1⟩ := elem_PlanEntry h hlt
        have d0 := (hb.cell (p := ⟨b, off + k * 2, none⟩) hok).trans c0
        have d1 := (hb.cell (p := ⟨b, off + k * 2 + 1, none⟩) hok).trans c1
        have HS : Hid _ := sum_take wPlanEntry l k hlt
        have HT : Hid _ := sum_le wPlanEntry l (k + 1)
        generalize l[k] = x at *
        clear c0 c1
        go_wp2_with fail
        refine (szPlanEntry_any x _ _ _ _ hpos (by omega) p0 (p1.later hb)).mono ?_
        rintro e w1 ⟨rfl, hb1⟩
        have hb2 := hb.trans (hb1.mono hb.size)
        by_cases hw : (wPlanEntry x : Int) ≤ L - l.length - s
        · rw [szR_yes hw]
          have hs2 : Hid (s + wPlanEntry x = ((l.take (k + 1)).map wPlanEntry).sum) := by have h3 := HS.out; have h4 := hs.out; show _ = _; omega
          go_wp2
          go_roundw
          case rel => exact ⟨k + 1, s + wPlanEntry x, by omega, by go_num, by go_num, by omega, hs2, hb2⟩
          case measure => simp [intOf]; omega
        · rw [szR_no hw]
          have hR : Hid (szR L (wPlanEntryS l) = -1) := szR_no (by
            have h3 := HS.out; have h4 := hs.out; have h5 := HT.out
            unfold wPlanEntryS; omega)
          go_wp2
          go_ret
          exact ⟨by rw [hR.out]; rfl, hb2⟩
      · have hR : Hid (szR L (wPlanEntryS l) = L - l.length - s) := by
          have h4 := hs.out
          rw [List.take_of_length_le (by omega)] at h4
          have : szR L (wPlanEntryS l) = L - (wPlanEntryS l : Nat) := szR_yes (by unfold wPlanEntryS; omega)
          show _ = _
          rw [this]; unfold wPlanEntryS; omega
        go_wp2
        go_ret
        exact ⟨by rw [hR.out]; rfl, hb⟩
  · have hR : Hid (szR L (wPlanEntryS l) = -1) := szR_no (by unfold wPlanEntryS; omega)
    go_enter Tryz.func23, Tryz.ntmps23
    go_wp2
    go_ret
    exact ⟨by rw [hR.out]; rfl, Below.refl _ _⟩

set_option maxHeartbeats 1000000 in
theorem toPlanEntry_any (x : DPlanEntry) (ao1 : Option Addr) (cap1 : Nat) (w : World) (p1 : SliceAt vPlanField (old w) w ao1 cap1 x.2) (hn : wPlanEntry x ≤ 1048576) :
    Calls Tryz.prog 64 #[.agg #[.string x.1, .slice ao1 x.2.length cap1]] w fun e w' => ∃ ao1' cap1', e = .returned (.agg #[.string x.1, .slice ao1' x.2.length cap1']) ∧ SliceAt vPlanField (fresh w w') w' ao1' cap1' x.2 ∧ Below w.heap.size w w' := by
  have s1 : wPlanFieldS x.2 ≤ 1048576 := by unfold wPlanEntry at hn; omega
  clear hn
  go_enter Tryz.func64, Tryz.ntmps64
  go_wp2_with fail
  have b1 : Below w.heap.size w (((w.alloc (.cells #[.string x.1, .slice ao1 x.2.length cap1] 105)).alloc (.cells #[.string ByteArray.empty, .slice none 0 0] 67)).alloc (.cells #[.string x.1, .slice none 0 0] 67)) := (((Below.refl w.heap.size w).alloc (Nat.le_refl _) _).alloc (by simp) _).alloc (by simp; try omega) _
  refine (toPlanFieldS_any ao1 cap1 x.2 _ s1 (p1.later b1)).mono ?_
  rintro e w1 ⟨ao1', cap1', rfl, q1, g1⟩
  have b1' := b1.trans (g1.mono b1.size)
  obtain ⟨hc1, hf1⟩ := bcell g1
  have z1 := g1.size
  try simp at z1 hc1 hf1
  have y10 : w.heap.size < w1.heap.size := by omega
  have y11 : w.heap.size + 1 < w1.heap.size := by omega
  have y12 : w.heap.size + 1 + 1 < w1.heap.size := by omega
  go_wp2
  refine bodyPost_ret (v := .agg #[.string x.1, .slice ao1' x.2.length cap1']) (by simp [results, Tryz.results64, go_sem, hc1, hf1, y10, y11, y12]) rfl ⟨ao1', cap1', rfl, ?_, ?_⟩
  · refine SliceAt.mono (q1.stays ?_) ?_
    · intro b hb
      have hb1 := hb.1
      have hb2 := hb.2
      simp at hb1 hb2
      have hne1 : b ≠ w.heap.size + 1 := by omega
      have hne2 : b ≠ w.heap.size + 1 + 1 := by omega
      simp [Below.heap_setCell, hne1, hne2]
    · intro b hb
      have hb1 := hb.1
      have hb2 := hb.2
      simp at hb1 hb2
      exact ⟨by omega, by simp; omega⟩
  · repeat (first | refine Below.setCell ?_ (by simp; try omega) _ | exact b1')

theorem Tryz.info_PlanEntry : (Tryz.prog.info? 67).map (fun i => (i.zero, i.size, i.bytes)) = some (some (.agg #[.string ByteArray.empty, .slice none 0 0]), 2, 40) := by kernel_rfl

set_option maxHeartbeats 1000000 in
theorem toPlanEntryS_any (ao : Option Addr) (cap : Nat) (l : List DPlanEntry) (w : World) (hn : wPlanEntryS l ≤ 1048576) (h : SliceAt vPlanEntry (old w) w ao cap l) :
    Calls Tryz.prog 28 #[.slice ao l.length cap] w fun e w' => ∃ ao' cap', e = .returned (.slice ao' l.length cap') ∧ SliceAt vPlanEntry (fresh w w') w' ao' cap' l ∧ Below w.heap.size w w' := by
  have hl : l.length ≤ 1048576 := by unfold wPlanEntryS at hn; omega
  obtain ⟨i0, hi, hz0, hz1, hz2⟩ := info_parts Tryz.info_PlanEntry
  go_enter Tryz.func28, Tryz.ntmps28
  go_wp2_with (at_make; refine wpList_make_full _ rfl _ _ 41 rfl w.heap.size 67 i0 _ 2 Tryz.underlying41 hi hz0 hz1 _ _ _ _ l.length rfl rfl rfl rfl ?c1 ?c2 ?c3 ?_)
  case c1 => rw [hz2]; omega
  case c2 => unfold maxLen; omega
  case c3 => exact Nat.le_refl _
  intro w1 hown hgr
  have hR0 : RowAt vPlanEntry w1 w.heap.size 67 0 l := RowAt.start rfl hown
  have hB0 : Below w.heap.size w w1 := (Below.refl _ _).grown hgr (Nat.le_refl _) (by intro k hk; cases hk)
  clear hown hgr hi hz0 hz1 hz2
  go_wp2
  go_loopw [4] (fun i wr => ∃ k : Nat, k ≤ l.length ∧ i = .int .i64 k ∧ Below w.heap.size w wr ∧ RowAt vPlanEntry wr w.heap.size 67 k l) (fun i _ => l.length - (intOf i).toNat)
  case atStart => exact ⟨0, Nat.zero_le _, rfl, hB0, hR0⟩
  case round =>
    obtain ⟨k, hk, rfl, hbel, hR⟩ := hrel
    by_cases hlt : k < l.length
    · obtain ⟨b, off, ao1, cap1, rfl, hok, c0, c1, p0, p1⟩ := elem_PlanEntry h hlt
      have d0 := (hbel.cell (p := ⟨b, off + k * 2, none⟩) hok).trans c0
      have d1 := (hbel.cell (p := ⟨b, off + k * 2 + 1, none⟩) hok).trans c1
      have t : wPlanEntry l[k] ≤ 1048576 := by have h1 := sum_elem wPlanEntry l k hlt; unfold wPlanEntryS at hn; omega
      clear c0 c1 hR0 hB0
      go_wp2_with fail
      refine (toPlanEntry_any _ _ _ _ (p1.later hbel) t).mono ?_
      rintro e w2 ⟨ao1', cap1', rfl, q1, hb2⟩
      have hR2 := hR.later hb2
      have hB2 := hbel.trans (hb2.mono hbel.size)
      have hR3 := hR2.store hlt (mk_PlanEntry p0 (q1.mono (fun b hb => ⟨Nat.lt_of_lt_of_le hR.lt hb.1, hb.2⟩)))
      have hB3 := put_below w.heap.size w.heap.size (Nat.le_refl _) [.string l[k].1, .slice ao1' l[k].2.length cap1'] _ _ (k * 2) hB2
      obtain ⟨u0, e0⟩ := hR2.cell (i := k * 2) (by rw [vPlanEntry_size]; omega)
      obtain ⟨u1, e1⟩ := hR2.cell (i := k * 2 + 1) (by rw [vPlanEntry_size]; omega)
      have f0 := hR2.free (k * 2)
      have f1 := hR2.free (k * 2 + 1)
      clear hR hR2 hB2 hb2
      go_wp2
      go_roundw
      case rel => exact ⟨k + 1, by omega, by go_num, hB3, hR3⟩
      case measure => simp [intOf]; omega
    · have hk2 : k = l.length := by omega
      subst hk2
      have hS := hR.done (by unfold maxLen; omega)
      go_wp2
      go_ret
      exact ⟨_, _, rfl, hS, hbel⟩

set_option maxHeartbeats 400000 in
theorem eqPlanEntry_any (x : DPlanEntry) (ao1 : Option Addr) (cap1 : Nat) (ao1' : Option Addr) (cap1' : Nat) (w : World) (p1 : SliceAt vPlanField (old w) w ao1 cap1 x.2) (p1' : SliceAt vPlanField (old w) w ao1' cap1' x.2) (hn : wPlanEntry x ≤ 1048576) :
    Calls Tryz.prog 73 #[.agg #[.string x.1, .slice ao1 x.2.length cap1], .agg #[.string x.1, .slice ao1' x.2.length cap1']] w fun e w' => e = .returned (.bool true) ∧ Below w.heap.size w w' := by
  have s1 : wPlanFieldS x.2 ≤ 1048576 := by unfold wPlanEntry at hn; omega
  clear hn
  go_enter Tryz.func73, Tryz.ntmps73
  go_wp2_with fail
  have b1 : Below w.heap.size w _ := ((Below.refl w.heap.size w).alloc (Nat.le_refl _) (.cells #[.string x.1, .slice ao1 x.2.length cap1] 67)).alloc (by simp) (.cells #[.string x.1, .slice ao1' x.2.length cap1'] 67)
  refine (eqPlanFieldS_any ao1 ao1' cap1 cap1' x.2 _ s1 (p1.later b1) (p1'.later b1)).mono ?_
  rintro e w1 ⟨rfl, g1⟩
  have b1' := b1.trans (g1.mono b1.size)
  obtain ⟨hc1, hf1⟩ := bcell g1
  have z1 := g1.size
  try simp at z1 hc1 hf1
  have y10 : w.heap.size < w1.heap.size := by omega
  have y11 : w.heap.size + 1 < w1.heap.size := by omega
  go_wp2
  go_ret
  exact ⟨rfl, b1'⟩

set_option maxHeartbeats 1000000 in
theorem eqPlanEntryS_any (ao bo : Option Addr) (ca cb : Nat) (l : List DPlanEntry) (w : World) (hn : wPlanEntryS l ≤ 1048576) (ha : SliceAt vPlanEntry (old w) w ao ca l) (hb : SliceAt vPlanEntry (old w) w bo cb l) :
    Calls Tryz.prog 34 #[.slice ao l.length ca, .slice bo l.length cb] w fun e w' => e = .returned (.bool true) ∧ Below w.heap.size w w' := by
  have hl : l.length ≤ 1048576 := by unfold wPlanEntryS at hn; omega
  go_enter Tryz.func34, Tryz.ntmps34
  go_wp2
  go_loopw [5] (fun i wr => ∃ k : Nat, k ≤ l.length ∧ i = .int .i64 k ∧ Below w.heap.size w wr) (fun i _ => l.length - (intOf i).toNat)
  case atStart => exact ⟨0, Nat.zero_le _, rfl, Below.refl _ _⟩
  case round =>
    obtain ⟨k, hk, rfl, hbel⟩ := hrel
    by_cases hlt : k < l.length
    · obtain ⟨b, off, ao1, cap1, rfl, hok, c0, c1, _, p1⟩ := elem_PlanEntry ha hlt
      obtain ⟨b', off', ao1', cap1', rfl, hok', c0', c1', _, p1'⟩ := elem_PlanEntry hb hlt
      have d0 := (hbel.cell (p := ⟨b, off + k * 2, none⟩) hok).trans c0
      have d1 := (hbel.cell (p := ⟨b, off + k * 2 + 1, none⟩) hok).trans c1
      have d0' := (hbel.cell (p := ⟨b', off' + k * 2, none⟩) hok').trans c0'
      have d1' := (hbel.cell (p := ⟨b', off' + k * 2 + 1, none⟩) hok').trans c1'
      have q1 := p1.later hbel
      have q1' := p1'.later hbel
      have t : wPlanEntry l[k] ≤ 1048576 := by have h1 := sum_elem wPlanEntry l k hlt; unfold wPlanEntryS at hn; omega
      generalize l[k] = x at *
      have hsz := hbel.size
      clear c0 c1 c0' c1' ha hb
      go_wp2
      go_region_with (go_at_call 73; refine (eqPlanEntry_any _ _ _ _ _ _ (q1.later (below_drewN (Below.refl _ _) 1)) (q1'.later (below_drewN (Below.refl _ _) 1)) t).mono ?_; rintro e w1 ⟨rfl, hb1⟩)
      all_goals
        go_wp2
        go_roundw
        case rel => exact ⟨k + 1, by omega, by go_num, hbel.trans (Below.trans (below_drewN (Below.refl _ _) 1) (hb1.mono hsz))⟩
        case measure => simp [intOf]; omega
    · go_wp2
      go_ret
      exact ⟨rfl, hbel⟩

end Go.Proofs.YtgnjkpmbppmoeaaGreat

/- DERIVED. By gv.py: data, view and the laws' own functions over PlanBook. -/
namespace Go.Proofs.YtgnjkpmbppmoeaaGreat
open Go.RowKit
set_option linter.unusedSimpArgs false
set_option linter.unusedVariables false

abbrev DPlanBook := DPlanBase × List DPlanEntry
def vPlanBook : View DPlanBook := vPair vPlanBase (vSlice vPlanEntry)
theorem vPlanBook_size : vPlanBook.size = 3 := rfl

theorem cells_PlanBook {ok : Nat → Prop} {w : World} {c : List Value} {x : DPlanBook} (h : vPlanBook.rel ok w c x) :
    ∃ ao0 cap0, ∃ ao1 cap1, ∃ ao2 cap2, c = [.slice ao0 x.1.1.length cap0, .slice ao1 x.1.2.length cap1, .slice ao2 x.2.length cap2] ∧ SliceAt vPlanKind ok w ao0 cap0 x.1.1 ∧ SliceAt vPlanPoint ok w ao1 cap1 x.1.2 ∧ SliceAt vPlanEntry ok w ao2 cap2 x.2 := by
  obtain ⟨c0, r0, rfl, t0, ao2, cap2, rfl, p2⟩ := h
  obtain ⟨ao0, cap0, ao1, cap1, rfl, p0, p1⟩ := cells_PlanBase t0
  exact ⟨ao0, cap0, ao1, cap1, ao2, cap2, rfl, p0, p1, p2⟩

theorem mk_PlanBook {ok : Nat → Prop} {w : World} {x : DPlanBook} {ao0 : Option Addr} {cap0 : Nat} {ao1 : Option Addr} {cap1 : Nat} {ao2 : Option Addr} {cap2 : Nat} (p0 : SliceAt vPlanKind ok w ao0 cap0 x.1.1) (p1 : SliceAt vPlanPoint ok w ao1 cap1 x.1.2) (p2 : SliceAt vPlanEntry ok w ao2 cap2 x.2) : vPlanBook.rel ok w [.slice ao0 x.1.1.length cap0, .slice ao1 x.1.2.length cap1, .slice ao2 x.2.length cap2] x :=
  ⟨[_, _], _, rfl, mk_PlanBase p0 p1, _, _, rfl, p2⟩

theorem elem_PlanBook {ok : Nat → Prop} {w : World} {ao : Option Addr} {cap : Nat} {l : List DPlanBook} (h : SliceAt vPlanBook ok w ao cap l) {i : Nat} (hi : i < l.length) :
    ∃ b off, ∃ ao0 cap0, ∃ ao1 cap1, ∃ ao2 cap2, ao = some ⟨b, off, none⟩ ∧ ok b ∧ w.cell? ⟨b, off + i * 3, none⟩ = some (.slice ao0 (l[i]'hi).1.1.length cap0) ∧ w.cell? ⟨b, off + i * 3 + 1, none⟩ = some (.slice ao1 (l[i]'hi).1.2.length cap1) ∧ w.cell? ⟨b, off + i * 3 + 2, none⟩ = some (.slice ao2 (l[i]'hi).2.length cap2) ∧ SliceAt vPlanKind ok w ao0 cap0 (l[i]'hi).1.1 ∧ SliceAt vPlanPoint ok w ao1 cap1 (l[i]'hi).1.2 ∧ SliceAt vPlanEntry ok w ao2 cap2 (l[i]'hi).2 := by
  obtain ⟨b, off, c, h1, h2, h3, h4⟩ := h.elem hi
  obtain ⟨ao0, cap0, ao1, cap1, ao2, cap2, rfl, p0, p1, p2⟩ := cells_PlanBook h3
  exact ⟨b, off, ao0, cap0, ao1, cap1, ao2, cap2, h1, h2, h4 0 (by decide), h4 1 (by decide), h4 2 (by decide), p0, p1, p2⟩

def wPlanBook (x : DPlanBook) : Nat := wPlanBase x.1 + wPlanEntryS x.2
def wPlanBookS (l : List DPlanBook) : Nat := l.length + (l.map wPlanBook).sum

set_option maxHeartbeats 400000 in
theorem szPlanBook_any (x : DPlanBook) (ao0 : Option Addr) (cap0 : Nat) (ao1 : Option Addr) (cap1 : Nat) (ao2 : Option Addr) (cap2 : Nat) (L : Int) (w : World) (h0 : 0 ≤ L) (h1 : L ≤ 1048576) (p0 : SliceAt vPlanKind (old w) w ao0 cap0 x.1.1) (p1 : SliceAt vPlanPoint (old w) w ao1 cap1 x.1.2) (p2 : SliceAt vPlanEntry (old w) w ao2 cap2 x.2) :
    Calls Tryz.prog 6 #[.agg #[.slice ao0 x.1.1.length cap0, .slice ao1 x.1.2.length cap1, .slice ao2 x.2.length cap2], .int .i64 L] w fun e w' => e = .returned (.int .i64 (szR L (wPlanBook x))) ∧ Below w.heap.size w w' := by
  go_enter Tryz.func6, Tryz.ntmps6
  go_wp2_with fail
  refine (szPlanBase_any x.1 ao0 cap0 ao1 cap1 _ _ (by omega) (by omega) (p0.later (by repeat (first | exact Below.refl _ _ | refine Below.alloc ?_ (by simp; try omega) _))) (p1.later (by repeat (first | exact Below.refl _ _ | refine Below.alloc ?_ (by simp; try omega) _)))).mono ?_
  rintro e w0 ⟨rfl, g0⟩
  have b0 : Below w.heap.size w w0 := Below.trans (by repeat (first | exact Below.refl _ _ | refine Below.alloc ?_ (by simp; try omega) _)) (g0.mono (by first | exact Nat.le_refl _ | (simp; done) | (simp; omega) | exact b0.size))
  obtain ⟨hc0, hf0⟩ := bcell g0
  have z0 := g0.size
  try simp at z0 hc0 hf0
  have y0 : w.heap.size < w0.heap.size := by omega
  by_cases n0 : ((wPlanBase x.1 : Nat) : Int) ≤ L
  · rw [szR_yes n0]
    go_wp2_with fail
    refine (szPlanEntryS_any _ _ _ _ _ (by omega) (by omega) (p2.later (b0))).mono ?_
    rintro e w2 ⟨rfl, g2⟩
    have b2 : Below w.heap.size w w2 := Below.trans (b0) (g2.mono (by first | exact Nat.le_refl _ | (simp; done) | (simp; omega) | exact b0.size))
    obtain ⟨hc2, hf2⟩ := bcell g2
    have z2 := g2.size
    try simp at z2 hc2 hf2
    have y2 : w.heap.size < w2.heap.size := by omega
    by_cases n2 : ((wPlanEntryS x.2 : Nat) : Int) ≤ L - (wPlanBase x.1 : Nat)
    · rw [szR_yes n2]
      have HR : Hid (szR L (wPlanBook x) = L - (wPlanBase x.1 : Nat) - (wPlanEntryS x.2 : Nat)) := by
        have h : szR L (wPlanBook x) = L - (wPlanBook x : Nat) := szR_yes (by unfold wPlanBook; omega)
        show _ = _
        rw [h]; unfold wPlanBook; omega
      go_wp2
      go_ret
      exact ⟨by rw [HR.out]; rfl, b2⟩
    · rw [szR_no n2]
      have HR : Hid (szR L (wPlanBook x) = -1) := szR_no (by unfold wPlanBook; omega)
      go_wp2
      go_ret
      exact ⟨by rw [HR.out]; rfl, b2⟩
  · rw [szR_no n0]
    have HR : Hid (szR L (wPlanBook x) = -1) := szR_no (by unfold wPlanBook; omega)
    go_wp2
    go_ret
    exact ⟨by rw [HR.out]; rfl, b0⟩

set_option maxHeartbeats 1000000 in
theorem toPlanBook_any (x : DPlanBook) (ao0 : Option Addr) (cap0 : Nat) (ao1 : Option Addr) (cap1 : Nat) (ao2 : Option Addr) (cap2 : Nat) (w : World) (p0 : SliceAt vPlanKind (old w) w ao0 cap0 x.1.1) (p1 : SliceAt vPlanPoint (old w) w ao1 cap1 x.1.2) (p2 : SliceAt vPlanEntry (old w) w ao2 cap2 x.2) (hn : wPlanBook x ≤ 1048576) :
    Calls Tryz.prog 8 #[.agg #[.slice ao0 x.1.1.length cap0, .slice ao1 x.1.2.length cap1, .slice ao2 x.2.length cap2]] w fun e w' => ∃ ao0' cap0', ∃ ao1' cap1', ∃ ao2' cap2', e = .returned (.agg #[.slice ao0' x.1.1.length cap0', .slice ao1' x.1.2.length cap1', .slice ao2' x.2.length cap2']) ∧ SliceAt vPlanKind (fresh w w') w' ao0' cap0' x.1.1 ∧ SliceAt vPlanPoint (fresh w w') w' ao1' cap1' x.1.2 ∧ SliceAt vPlanEntry (fresh w w') w' ao2' cap2' x.2 ∧ Below w.heap.size w w' := by
  have s0 : wPlanBase x.1 ≤ 1048576 := by unfold wPlanBook at hn; omega
  have s2 : wPlanEntryS x.2 ≤ 1048576 := by unfold wPlanBook at hn; omega
  clear hn
  go_enter Tryz.func8, Tryz.ntmps8
  go_wp2_with fail
  have b0 : Below w.heap.size w (((w.alloc (.cells #[.slice ao0 x.1.1.length cap0, .slice ao1 x.1.2.length cap1, .slice ao2 x.2.length cap2] 28)).alloc (.cells #[.slice none 0 0, .slice none 0 0, .slice none 0 0] 43)).alloc (.cells #[.slice none 0 0, .slice none 0 0, .slice none 0 0] 43)) := (((Below.refl w.heap.size w).alloc (Nat.le_refl _) _).alloc (by simp) _).alloc (by simp; try omega) _
  refine (toPlanBase_any x.1 ao0 cap0 ao1 cap1 _ (p0.later b0) (p1.later b0) s0).mono ?_
  rintro e w0 ⟨ao0', cap0', ao1', cap1', rfl, q0, q1, g0⟩
  have b0' := b0.trans (g0.mono b0.size)
  obtain ⟨hc0, hf0⟩ := bcell g0
  have z0 := g0.size
  try simp at z0 hc0 hf0
  have y00 : w.heap.size < w0.heap.size := by omega
  have y01 : w.heap.size + 1 < w0.heap.size := by omega
  have y02 : w.heap.size + 1 + 1 < w0.heap.size := by omega
  go_wp2_with fail
  have b2 : Below w.heap.size w ((w0.setCell ⟨w.heap.size + 1 + 1, 0, none⟩ (.slice ao0' x.1.1.length cap0')).setCell ⟨w.heap.size + 1 + 1, 1, none⟩ (.slice ao1' x.1.2.length cap1')) := ((b0'.setCell (p := ⟨w.heap.size + 1 + 1, 0, none⟩) (by simp; try omega) _).setCell (p := ⟨w.heap.size + 1 + 1, 1, none⟩) (by simp; try omega) _)
  refine (toPlanEntryS_any ao2 cap2 x.2 _ s2 (p2.later b2)).mono ?_
  rintro e w2 ⟨ao2', cap2', rfl, q2, g2⟩
  have b2' := b2.trans (g2.mono b2.size)
  obtain ⟨hc2, hf2⟩ := bcell g2
  have z2 := g2.size
  try simp at z2 hc2 hf2
  have y20 : w.heap.size < w2.heap.size := by omega
  have y21 : w.heap.size + 1 < w2.heap.size := by omega
  have y22 : w.heap.size + 1 + 1 < w2.heap.size := by omega
  go_wp2
  refine bodyPost_ret (v := .agg #[.slice ao0' x.1.1.length cap0', .slice ao1' x.1.2.length cap1', .slice ao2' x.2.length cap2']) (by simp [results, Tryz.results8, go_sem, hc0, hf0, y00, y01, y02, hc2, hf2, y20, y21, y22]) rfl ⟨ao0', cap0', ao1', cap1', ao2', cap2', rfl, ?_, ?_, ?_, ?_⟩
  · refine SliceAt.mono (q0.stays ?_) ?_
    · intro b hb
      have hb1 := hb.1
      have hb2 := hb.2
      simp at hb1 hb2
      have hne1 : b ≠ w.heap.size + 1 := by omega
      have hne2 : b ≠ w.heap.size + 1 + 1 := by omega
      have hl2 : b < w0.heap.size := by omega
      have hk2 := g2.block b (by simpa using hl2)
      simp [Below.heap_setCell, hne1, hne2, hk2]
    · intro b hb
      have hb1 := hb.1
      have hb2 := hb.2
      simp at hb1 hb2
      exact ⟨by omega, by simp; omega⟩
  · refine SliceAt.mono (q1.stays ?_) ?_
    · intro b hb
      have hb1 := hb.1
      have hb2 := hb.2
      simp at hb1 hb2
      have hne1 : b ≠ w.heap.size + 1 := by omega
      have hne2 : b ≠ w.heap.size + 1 + 1 := by omega
      have hl2 : b < w0.heap.size := by omega
      have hk2 := g2.block b (by simpa using hl2)
      simp [Below.heap_setCell, hne1, hne2, hk2]
    · intro b hb
      have hb1 := hb.1
      have hb2 := hb.2
      simp at hb1 hb2
      exact ⟨by omega, by simp; omega⟩
  · refine SliceAt.mono (q2.stays ?_) ?_
    · intro b hb
      have hb1 := hb.1
      have hb2 := hb.2
      simp at hb1 hb2
      have hne1 : b ≠ w.heap.size + 1 := by omega
      have hne2 : b ≠ w.heap.size + 1 + 1 := by omega
      simp [Below.heap_setCell, hne1, hne2]
    · intro b hb
      have hb1 := hb.1
      have hb2 := hb.2
      simp at hb1 hb2
      exact ⟨by omega, by simp; omega⟩
  · repeat (first | refine Below.setCell ?_ (by simp; try omega) _ | exact b2')

set_option maxHeartbeats 400000 in
theorem eqPlanBook_any (x : DPlanBook) (ao0 : Option Addr) (cap0 : Nat) (ao1 : Option Addr) (cap1 : Nat) (ao2 : Option Addr) (cap2 : Nat) (ao0' : Option Addr) (cap0' : Nat) (ao1' : Option Addr) (cap1' : Nat) (ao2' : Option Addr) (cap2' : Nat) (w : World) (p0 : SliceAt vPlanKind (old w) w ao0 cap0 x.1.1) (p0' : SliceAt vPlanKind (old w) w ao0' cap0' x.1.1) (p1 : SliceAt vPlanPoint (old w) w ao1 cap1 x.1.2) (p1' : SliceAt vPlanPoint (old w) w ao1' cap1' x.1.2) (p2 : SliceAt vPlanEntry (old w) w ao2 cap2 x.2) (p2' : SliceAt vPlanEntry (old w) w ao2' cap2' x.2) (hn : wPlanBook x ≤ 1048576) :
    Calls Tryz.prog 11 #[.agg #[.slice ao0 x.1.1.length cap0, .slice ao1 x.1.2.length cap1, .slice ao2 x.2.length cap2], .agg #[.slice ao0' x.1.1.length cap0', .slice ao1' x.1.2.length cap1', .slice ao2' x.2.length cap2']] w fun e w' => e = .returned (.bool true) ∧ Below w.heap.size w w' := by
  have s0 : wPlanBase x.1 ≤ 1048576 := by unfold wPlanBook at hn; omega
  have s2 : wPlanEntryS x.2 ≤ 1048576 := by unfold wPlanBook at hn; omega
  clear hn
  go_enter Tryz.func11, Tryz.ntmps11
  go_wp2_with fail
  have b0 : Below w.heap.size w _ := ((Below.refl w.heap.size w).alloc (Nat.le_refl _) (.cells #[.slice ao0 x.1.1.length cap0, .slice ao1 x.1.2.length cap1, .slice ao2 x.2.length cap2] 43)).alloc (by simp) (.cells #[.slice ao0' x.1.1.length cap0', .slice ao1' x.1.2.length cap1', .slice ao2' x.2.length cap2'] 43)
  refine (eqPlanBase_any x.1 ao0 cap0 ao1 cap1 ao0' cap0' ao1' cap1' _ (p0.later b0) (p0'.later b0) (p1.later b0) (p1'.later b0) s0).mono ?_
  rintro e w0 ⟨rfl, g0⟩
  have b0' := b0.trans (g0.mono b0.size)
  obtain ⟨hc0, hf0⟩ := bcell g0
  have z0 := g0.size
  try simp at z0 hc0 hf0
  have y00 : w.heap.size < w0.heap.size := by omega
  have y01 : w.heap.size + 1 < w0.heap.size := by omega
  go_wp2_with fail
  have b2 := b0'
  refine (eqPlanEntryS_any ao2 ao2' cap2 cap2' x.2 _ s2 (p2.later b2) (p2'.later b2)).mono ?_
  rintro e w2 ⟨rfl, g2⟩
  have b2' := b2.trans (g2.mono b2.size)
  obtain ⟨hc2, hf2⟩ := bcell g2
  have z2 := g2.size
  try simp at z2 hc2 hf2
  have y20 : w.heap.size < w2.heap.size := by omega
  have y21 : w.heap.size + 1 < w2.heap.size := by omega
  go_wp2
  go_ret
  exact ⟨rfl, b2'⟩

end Go.Proofs.YtgnjkpmbppmoeaaGreat
