/- DERIVED. By gv.py: data, view and the laws' own functions over FlyBox. -/
import Derived.Test.YtpjacfnjjkoikaaRows
import Derived.Test.YtpjacfnjjkoikaaKGWa
namespace Go.Proofs.Ytpjacfnjjkoikaa
open Go.RowKit
set_option linter.unusedSimpArgs false
set_option linter.unusedVariables false

abbrev DFlyBox := Int × Int × Int × Int × Int × Int
def vFlyBox : View DFlyBox := vPair vInt (vPair vInt (vPair vInt (vPair vInt (vPair vInt vInt))))
theorem vFlyBox_size : vFlyBox.size = 6 := rfl

theorem cells_FlyBox {ok : Nat → Prop} {w : World} {c : List Value} {x : DFlyBox} (h : vFlyBox.rel ok w c x) :
    c = [.int .i64 x.1, .int .i64 x.2.1, .int .i64 x.2.2.1, .int .i64 x.2.2.2.1, .int .i64 x.2.2.2.2.1, .int .i64 x.2.2.2.2.2] ∧ In64 x.1 ∧ In64 x.2.1 ∧ In64 x.2.2.1 ∧ In64 x.2.2.2.1 ∧ In64 x.2.2.2.2.1 ∧ In64 x.2.2.2.2.2 := by
  obtain ⟨c0, r0, rfl, ⟨rfl, p0⟩, c1, r1, rfl, ⟨rfl, p1⟩, c2, r2, rfl, ⟨rfl, p2⟩, c3, r3, rfl, ⟨rfl, p3⟩, c4, r4, rfl, ⟨rfl, p4⟩, rfl, p5⟩ := h
  exact ⟨rfl, p0, p1, p2, p3, p4, p5⟩

theorem mk_FlyBox {ok : Nat → Prop} {w : World} {x : DFlyBox} (p0 : In64 x.1) (p1 : In64 x.2.1) (p2 : In64 x.2.2.1) (p3 : In64 x.2.2.2.1) (p4 : In64 x.2.2.2.2.1) (p5 : In64 x.2.2.2.2.2) : vFlyBox.rel ok w [.int .i64 x.1, .int .i64 x.2.1, .int .i64 x.2.2.1, .int .i64 x.2.2.2.1, .int .i64 x.2.2.2.2.1, .int .i64 x.2.2.2.2.2] x :=
  ⟨[_], _, rfl, ⟨rfl, p0⟩, [_], _, rfl, ⟨rfl, p1⟩, [_], _, rfl, ⟨rfl, p2⟩, [_], _, rfl, ⟨rfl, p3⟩, [_], _, rfl, ⟨rfl, p4⟩, rfl, p5⟩

theorem elem_FlyBox {ok : Nat → Prop} {w : World} {ao : Option Addr} {cap : Nat} {l : List DFlyBox} (h : SliceAt vFlyBox ok w ao cap l) {i : Nat} (hi : i < l.length) :
    ∃ b off, ao = some ⟨b, off, none⟩ ∧ ok b ∧ w.cell? ⟨b, off + i * 6, none⟩ = some (.int .i64 (l[i]'hi).1) ∧ w.cell? ⟨b, off + i * 6 + 1, none⟩ = some (.int .i64 (l[i]'hi).2.1) ∧ w.cell? ⟨b, off + i * 6 + 2, none⟩ = some (.int .i64 (l[i]'hi).2.2.1) ∧ w.cell? ⟨b, off + i * 6 + 3, none⟩ = some (.int .i64 (l[i]'hi).2.2.2.1) ∧ w.cell? ⟨b, off + i * 6 + 4, none⟩ = some (.int .i64 (l[i]'hi).2.2.2.2.1) ∧ w.cell? ⟨b, off + i * 6 + 5, none⟩ = some (.int .i64 (l[i]'hi).2.2.2.2.2) ∧ In64 (l[i]'hi).1 ∧ In64 (l[i]'hi).2.1 ∧ In64 (l[i]'hi).2.2.1 ∧ In64 (l[i]'hi).2.2.2.1 ∧ In64 (l[i]'hi).2.2.2.2.1 ∧ In64 (l[i]'hi).2.2.2.2.2 := by
  obtain ⟨b, off, c, h1, h2, h3, h4⟩ := h.elem hi
  obtain ⟨rfl, p0, p1, p2, p3, p4, p5⟩ := cells_FlyBox h3
  exact ⟨b, off, h1, h2, h4 0 (by decide), h4 1 (by decide), h4 2 (by decide), h4 3 (by decide), h4 4 (by decide), h4 5 (by decide), p0, p1, p2, p3, p4, p5⟩

def wFlyBoxS (l : List DFlyBox) : Nat := l.length

set_option maxHeartbeats 400000 in
theorem szFlyBoxS_any (ao : Option Addr) (cap : Nat) (l : List DFlyBox) (L : Int) (w : World) (h0 : 0 ≤ L) (h1 : L ≤ 1048576) (h : SliceAt vFlyBox (old w) w ao cap l) :
    Calls Try.prog 30 #[.slice ao l.length cap, .int .i64 L] w fun e w' => e = .returned (.int .i64 (szR L (wFlyBoxS l))) ∧ Below w.heap.size w w' := by
  have hcl := h.1
  have hcm : cap ≤ 9223372036854775807 := h.2.1
  by_cases hn : (l.length : Int) ≤ L
  · have HR : Hid (szR L (wFlyBoxS l) = L - l.length) := szR_yes (by unfold wFlyBoxS; omega)
    go_enter Try.func30, Try.ntmps30
    go_wp2
    go_ret
    exact ⟨by rw [HR.out]; rfl, Below.refl _ _⟩
  · have HR : Hid (szR L (wFlyBoxS l) = -1) := szR_no (by unfold wFlyBoxS; omega)
    go_enter Try.func30, Try.ntmps30
    go_wp2
    go_ret
    exact ⟨by rw [HR.out]; rfl, Below.refl _ _⟩

theorem toFlyBox_any (x : DFlyBox) (w : World) :
    Calls Try.prog 59 #[.agg #[.int .i64 x.1, .int .i64 x.2.1, .int .i64 x.2.2.1, .int .i64 x.2.2.2.1, .int .i64 x.2.2.2.2.1, .int .i64 x.2.2.2.2.2]] w fun e w' => e = .returned (.agg #[.int .i64 x.1, .int .i64 x.2.1, .int .i64 x.2.2.1, .int .i64 x.2.2.2.1, .int .i64 x.2.2.2.2.1, .int .i64 x.2.2.2.2.2]) ∧ Below w.heap.size w w' := by
  go_enter Try.func59, Try.ntmps59
  go_wp2
  exact bodyPost_ret (v := .agg #[.int .i64 x.1, .int .i64 x.2.1, .int .i64 x.2.2.1, .int .i64 x.2.2.2.1, .int .i64 x.2.2.2.2.1, .int .i64 x.2.2.2.2.2]) (by simp [results, Try.results59, go_sem]) rfl ⟨rfl, by repeat (first | exact Below.refl _ _ | refine Below.alloc ?_ (by simp; try omega) _)⟩

theorem Try.info_FlyBox : (Try.prog.info? 78).map (fun i => (i.zero, i.size, i.bytes)) = some (some (.agg #[.int .i64 0, .int .i64 0, .int .i64 0, .int .i64 0, .int .i64 0, .int .i64 0]), 6, 48) := by kernel_rfl

set_option maxHeartbeats 1000000 in
theorem toFlyBoxS_any (ao : Option Addr) (cap : Nat) (l : List DFlyBox) (w : World) (hn : wFlyBoxS l ≤ 1048576) (h : SliceAt vFlyBox (old w) w ao cap l) :
    Calls Try.prog 32 #[.slice ao l.length cap] w fun e w' => ∃ ao' cap', e = .returned (.slice ao' l.length cap') ∧ SliceAt vFlyBox (fresh w w') w' ao' cap' l ∧ Below w.heap.size w w' := by
  have hl : l.length ≤ 1048576 := by unfold wFlyBoxS at hn; omega
  obtain ⟨i0, hi, hz0, hz1, hz2⟩ := info_parts Try.info_FlyBox
  go_enter Try.func32, Try.ntmps32
  go_wp2_with (at_make; refine wpList_make_full _ rfl _ _ 45 rfl w.heap.size 78 i0 _ 6 Try.underlying45 hi hz0 hz1 _ _ _ _ l.length rfl rfl rfl rfl ?c1 ?c2 ?c3 ?_)
  case c1 => rw [hz2]; omega
  case c2 => unfold maxLen; omega
  case c3 => exact Nat.le_refl _
  intro w1 hown hgr
  have hR0 : RowAt vFlyBox w1 w.heap.size 78 0 l := RowAt.start rfl hown
  have hB0 : Below w.heap.size w w1 := (Below.refl _ _).grown hgr (Nat.le_refl _) (by intro k hk; cases hk)
  clear hown hgr hi hz0 hz1 hz2
  go_wp2
  go_loopw [4] (fun i wr => ∃ k : Nat, k ≤ l.length ∧ i = .int .i64 k ∧ Below w.heap.size w wr ∧ RowAt vFlyBox wr w.heap.size 78 k l) (fun i _ => l.length - (intOf i).toNat)
  case atStart => exact ⟨0, Nat.zero_le _, rfl, hB0, hR0⟩
  case round =>
    obtain ⟨k, hk, rfl, hbel, hR⟩ := hrel
    by_cases hlt : k < l.length
    · obtain ⟨b, off, rfl, hok, c0, c1, c2, c3, c4, c5, p0, p1, p2, p3, p4, p5⟩ := elem_FlyBox h hlt
      have d0 := (hbel.cell (p := ⟨b, off + k * 6, none⟩) hok).trans c0
      have d1 := (hbel.cell (p := ⟨b, off + k * 6 + 1, none⟩) hok).trans c1
      have d2 := (hbel.cell (p := ⟨b, off + k * 6 + 2, none⟩) hok).trans c2
      have d3 := (hbel.cell (p := ⟨b, off + k * 6 + 3, none⟩) hok).trans c3
      have d4 := (hbel.cell (p := ⟨b, off + k * 6 + 4, none⟩) hok).trans c4
      have d5 := (hbel.cell (p := ⟨b, off + k * 6 + 5, none⟩) hok).trans c5
      clear c0 c1 c2 c3 c4 c5 hR0 hB0
      go_wp2_with fail
      refine (toFlyBox_any _ _).mono ?_
      rintro e w2 ⟨rfl, hb2⟩
      have hR2 := hR.later hb2
      have hB2 := hbel.trans (hb2.mono hbel.size)
      have hR3 := hR2.store hlt (mk_FlyBox p0 p1 p2 p3 p4 p5)
      have hB3 := put_below w.heap.size w.heap.size (Nat.le_refl _) [.int .i64 l[k].1, .int .i64 l[k].2.1, .int .i64 l[k].2.2.1, .int .i64 l[k].2.2.2.1, .int .i64 l[k].2.2.2.2.1, .int .i64 l[k].2.2.2.2.2] _ _ (k * 6) hB2
      obtain ⟨u0, e0⟩ := hR2.cell (i := k * 6) (by rw [vFlyBox_size]; omega)
      obtain ⟨u1, e1⟩ := hR2.cell (i := k * 6 + 1) (by rw [vFlyBox_size]; omega)
      obtain ⟨u2, e2⟩ := hR2.cell (i := k * 6 + 2) (by rw [vFlyBox_size]; omega)
      obtain ⟨u3, e3⟩ := hR2.cell (i := k * 6 + 3) (by rw [vFlyBox_size]; omega)
      obtain ⟨u4, e4⟩ := hR2.cell (i := k * 6 + 4) (by rw [vFlyBox_size]; omega)
      obtain ⟨u5, e5⟩ := hR2.cell (i := k * 6 + 5) (by rw [vFlyBox_size]; omega)
      have f0 := hR2.free (k * 6)
      have f1 := hR2.free (k * 6 + 1)
      have f2 := hR2.free (k * 6 + 2)
      have f3 := hR2.free (k * 6 + 3)
      have f4 := hR2.free (k * 6 + 4)
      have f5 := hR2.free (k * 6 + 5)
      clear hR hR2 hB2 hb2
      go_wp2
      go_roundw
      case rel => exact ⟨k + 1, by omega, by go_num, hB3, hR3⟩
      case measure => simp [intOf]; omega
    · have hk2 : k = l.length := by omega
      subst hk2
      have hS := hR.done (by unfold maxLen; omega)
      go_wp2
      go_ret
      exact ⟨_, _, rfl, hS, hbel⟩

set_option maxHeartbeats 400000 in
theorem eqFlyBox_any (x : DFlyBox) (w : World) :
    Calls Try.prog 57 #[.agg #[.int .i64 x.1, .int .i64 x.2.1, .int .i64 x.2.2.1, .int .i64 x.2.2.2.1, .int .i64 x.2.2.2.2.1, .int .i64 x.2.2.2.2.2], .agg #[.int .i64 x.1, .int .i64 x.2.1, .int .i64 x.2.2.1, .int .i64 x.2.2.2.1, .int .i64 x.2.2.2.2.1, .int .i64 x.2.2.2.2.2]] w fun e w' => e = .returned (.bool true) ∧ Below w.heap.size w w' := by
  go_enter Try.func57, Try.ntmps57
  go_wp2
  go_ret
  exact ⟨rfl, by repeat (first | exact Below.refl _ _ | refine Below.alloc ?_ (by simp; try omega) _)⟩

set_option maxHeartbeats 1000000 in
theorem eqFlyBoxS_any (ao bo : Option Addr) (ca cb : Nat) (l : List DFlyBox) (w : World) (hn : wFlyBoxS l ≤ 1048576) (ha : SliceAt vFlyBox (old w) w ao ca l) (hb : SliceAt vFlyBox (old w) w bo cb l) :
    Calls Try.prog 27 #[.slice ao l.length ca, .slice bo l.length cb] w fun e w' => e = .returned (.bool true) ∧ Below w.heap.size w w' := by
  have hl : l.length ≤ 1048576 := by unfold wFlyBoxS at hn; omega
  go_enter Try.func27, Try.ntmps27
  go_wp2
  go_loopw [5] (fun i wr => ∃ k : Nat, k ≤ l.length ∧ i = .int .i64 k ∧ Below w.heap.size w wr) (fun i _ => l.length - (intOf i).toNat)
  case atStart => exact ⟨0, Nat.zero_le _, rfl, Below.refl _ _⟩
  case round =>
    obtain ⟨k, hk, rfl, hbel⟩ := hrel
    by_cases hlt : k < l.length
    · obtain ⟨b, off, rfl, hok, c0, c1, c2, c3, c4, c5, _, _, _, _, _, _⟩ := elem_FlyBox ha hlt
      obtain ⟨b', off', rfl, hok', c0', c1', c2', c3', c4', c5', _, _, _, _, _, _⟩ := elem_FlyBox hb hlt
      have d0 := (hbel.cell (p := ⟨b, off + k * 6, none⟩) hok).trans c0
      have d1 := (hbel.cell (p := ⟨b, off + k * 6 + 1, none⟩) hok).trans c1
      have d2 := (hbel.cell (p := ⟨b, off + k * 6 + 2, none⟩) hok).trans c2
      have d3 := (hbel.cell (p := ⟨b, off + k * 6 + 3, none⟩) hok).trans c3
      have d4 := (hbel.cell (p := ⟨b, off + k * 6 + 4, none⟩) hok).trans c4
      have d5 := (hbel.cell (p := ⟨b, off + k * 6 + 5, none⟩) hok).trans c5
      have d0' := (hbel.cell (p := ⟨b', off' + k * 6, none⟩) hok').trans c0'
      have d1' := (hbel.cell (p := ⟨b', off' + k * 6 + 1, none⟩) hok').trans c1'
      have d2' := (hbel.cell (p := ⟨b', off' + k * 6 + 2, none⟩) hok').trans c2'
      have d3' := (hbel.cell (p := ⟨b', off' + k * 6 + 3, none⟩) hok').trans c3'
      have d4' := (hbel.cell (p := ⟨b', off' + k * 6 + 4, none⟩) hok').trans c4'
      have d5' := (hbel.cell (p := ⟨b', off' + k * 6 + 5, none⟩) hok').trans c5'
      generalize l[k] = x at *
      have hsz := hbel.size
      clear c0 c1 c2 c3 c4 c5 c0' c1' c2' c3' c4' c5' ha hb
      go_wp2
      go_region_with (go_at_call 57; refine (eqFlyBox_any _ _).mono ?_; rintro e w1 ⟨rfl, hb1⟩)
      all_goals
        go_wp2
        go_roundw
        case rel => exact ⟨k + 1, by omega, by go_num, hbel.trans (Below.trans (below_drewN (Below.refl _ _) 1) (hb1.mono hsz))⟩
        case measure => simp [intOf]; omega
    · go_wp2
      go_ret
      exact ⟨rfl, hbel⟩

end Go.Proofs.Ytpjacfnjjkoikaa
