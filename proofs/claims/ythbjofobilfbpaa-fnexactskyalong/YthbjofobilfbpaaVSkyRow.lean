/- DERIVED. By gv.py: data, view and the laws' own functions over SkyRow. -/
import Derived.Test.YthbjofobilfbpaaRows
import Derived.Test.YthbjofobilfbpaaVw1
import Derived.Test.YthbjofobilfbpaaVSkyRun
namespace Go.Proofs.Ythbjofobilfbpaa
open Go.RowKit
set_option linter.unusedSimpArgs false
set_option linter.unusedVariables false

abbrev DSkyRow := Int × Int × List DSkyRun
def vSkyRow : View DSkyRow := vPair vInt (vPair vInt (vSlice vSkyRun))
theorem vSkyRow_size : vSkyRow.size = 3 := rfl

theorem cells_SkyRow {ok : Nat → Prop} {w : World} {c : List Value} {x : DSkyRow} (h : vSkyRow.rel ok w c x) :
    ∃ ao2 cap2, c = [.int .i64 x.1, .int .i64 x.2.1, .slice ao2 x.2.2.length cap2] ∧ In64 x.1 ∧ In64 x.2.1 ∧ SliceAt vSkyRun ok w ao2 cap2 x.2.2 := by
  obtain ⟨c0, r0, rfl, ⟨rfl, p0⟩, c1, r1, rfl, ⟨rfl, p1⟩, ao2, cap2, rfl, p2⟩ := h
  exact ⟨ao2, cap2, rfl, p0, p1, p2⟩

theorem mk_SkyRow {ok : Nat → Prop} {w : World} {x : DSkyRow} {ao2 : Option Addr} {cap2 : Nat} (p0 : In64 x.1) (p1 : In64 x.2.1) (p2 : SliceAt vSkyRun ok w ao2 cap2 x.2.2) : vSkyRow.rel ok w [.int .i64 x.1, .int .i64 x.2.1, .slice ao2 x.2.2.length cap2] x :=
  ⟨[_], _, rfl, ⟨rfl, p0⟩, [_], _, rfl, ⟨rfl, p1⟩, _, _, rfl, p2⟩

theorem elem_SkyRow {ok : Nat → Prop} {w : World} {ao : Option Addr} {cap : Nat} {l : List DSkyRow} (h : SliceAt vSkyRow ok w ao cap l) {i : Nat} (hi : i < l.length) :
    ∃ b off, ∃ ao2 cap2, ao = some ⟨b, off, none⟩ ∧ ok b ∧ w.cell? ⟨b, off + i * 3, none⟩ = some (.int .i64 (l[i]'hi).1) ∧ w.cell? ⟨b, off + i * 3 + 1, none⟩ = some (.int .i64 (l[i]'hi).2.1) ∧ w.cell? ⟨b, off + i * 3 + 2, none⟩ = some (.slice ao2 (l[i]'hi).2.2.length cap2) ∧ In64 (l[i]'hi).1 ∧ In64 (l[i]'hi).2.1 ∧ SliceAt vSkyRun ok w ao2 cap2 (l[i]'hi).2.2 := by
  obtain ⟨b, off, c, h1, h2, h3, h4⟩ := h.elem hi
  obtain ⟨ao2, cap2, rfl, p0, p1, p2⟩ := cells_SkyRow h3
  exact ⟨b, off, ao2, cap2, h1, h2, h4 0 (by decide), h4 1 (by decide), h4 2 (by decide), p0, p1, p2⟩

def wSkyRow (x : DSkyRow) : Nat := wSkyRunS x.2.2
def wSkyRowS (l : List DSkyRow) : Nat := l.length + (l.map wSkyRow).sum

set_option maxHeartbeats 400000 in
theorem szSkyRow_any (x : DSkyRow) (ao2 : Option Addr) (cap2 : Nat) (L : Int) (w : World) (h0 : 0 ≤ L) (h1 : L ≤ 1048576) (p2 : SliceAt vSkyRun (old w) w ao2 cap2 x.2.2) :
    Calls Try.prog 30 #[.agg #[.int .i64 x.1, .int .i64 x.2.1, .slice ao2 x.2.2.length cap2], .int .i64 L] w fun e w' => e = .returned (.int .i64 (szR L (wSkyRow x))) ∧ Below w.heap.size w w' := by
  go_enter Try.func30, Try.ntmps30
  go_wp2_with fail
  refine (szSkyRunS_any _ _ _ _ _ (by omega) (by omega) (p2.later (by repeat (first | exact Below.refl _ _ | refine Below.alloc ?_ (by simp; try omega) _)))).mono ?_
  rintro e w2 ⟨rfl, g2⟩
  have b2 : Below w.heap.size w w2 := Below.trans (by repeat (first | exact Below.refl _ _ | refine Below.alloc ?_ (by simp; try omega) _)) (g2.mono (by first | exact Nat.le_refl _ | (simp; done) | (simp; omega) | exact b2.size))
  obtain ⟨hc2, hf2⟩ := bcell g2
  have z2 := g2.size
  try simp at z2 hc2 hf2
  have y2 : w.heap.size < w2.heap.size := by omega
  by_cases n2 : ((wSkyRunS x.2.2 : Nat) : Int) ≤ L
  · rw [szR_yes n2]
    have HR : Hid (szR L (wSkyRow x) = L - (wSkyRunS x.2.2 : Nat)) := by
      have h : szR L (wSkyRow x) = L - (wSkyRow x : Nat) := szR_yes (by unfold wSkyRow; omega)
      show _ = _
      rw [h]; unfold wSkyRow; omega
    go_wp2
    go_ret
    exact ⟨by rw [HR.out]; rfl, b2⟩
  · rw [szR_no n2]
    have HR : Hid (szR L (wSkyRow x) = -1) := szR_no (by unfold wSkyRow; omega)
    go_wp2
    go_ret
    exact ⟨by rw [HR.out]; rfl, b2⟩

set_option maxHeartbeats 400000 in
theorem szSkyRowS_any (ao : Option Addr) (cap : Nat) (l : List DSkyRow) (L : Int) (w : World) (h0 : 0 ≤ L) (h1 : L ≤ 1048576) (h : SliceAt vSkyRow (old w) w ao cap l) :
    Calls Try.prog 17 #[.slice ao l.length cap, .int .i64 L] w fun e w' => e = .returned (.int .i64 (szR L (wSkyRowS l))) ∧ Below w.heap.size w w' := by
  have hcl := h.1
  have hcm : cap ≤ 9223372036854775807 := h.2.1
  by_cases hn : (l.length : Int) ≤ L
  · have hd : decide (L - (l.length : Int) < 0) = false := by simp; omega
    go_enter Try.func17, Try.ntmps17
    go_wp2
    go_loopw [1, 5] (fun a i wr => ∃ (k s : Nat), k ≤ l.length ∧ i = .int .i64 k ∧ a = .int .i64 (L - l.length - s) ∧ 0 ≤ L - l.length - s ∧ Hid (s = ((l.take k).map wSkyRow).sum) ∧ Below w.heap.size w wr) (fun _ i _ => l.length - (intOf i).toNat)
    case atStart => exact ⟨0, 0, Nat.zero_le _, rfl, by simp, by simp; omega, by show _ = _; simp, Below.refl _ _⟩
    case round =>
      obtain ⟨k, s, hk, rfl, rfl, hpos, hs, hb⟩ := hrel
      by_cases hlt : k < l.length
      · obtain ⟨b, off, ao2, cap2, rfl, hok, c0, c1, c2, p0, p1, p2⟩ := elem_SkyRow h hlt
        have d0 := (hb.cell (p := ⟨b, off + k * 3, none⟩) hok).trans c0
        have d1 := (hb.cell (p := ⟨b, off + k * 3 + 1, none⟩) hok).trans c1
        have d2 := (hb.cell (p := ⟨b, off + k * 3 + 2, none⟩) hok).trans c2
        have HS : Hid _ := sum_take wSkyRow l k hlt
        have HT : Hid _ := sum_le wSkyRow l (k + 1)
        generalize l[k] = x at *
        clear c0 c1 c2
        go_wp2_with fail
        refine (szSkyRow_any x _ _ _ _ hpos (by omega) (p2.later hb)).mono ?_
        rintro e w1 ⟨rfl, hb1⟩
        have hb2 := hb.trans (hb1.mono hb.size)
        by_cases hw : (wSkyRow x : Int) ≤ L - l.length - s
        · rw [szR_yes hw]
          have hs2 : Hid (s + wSkyRow x = ((l.take (k + 1)).map wSkyRow).sum) := by have h3 := HS.out; have h4 := hs.out; show _ = _; omega
          go_wp2
          go_roundw
          case rel => exact ⟨k + 1, s + wSkyRow x, by omega, by go_num, by go_num, by omega, hs2, hb2⟩
          case measure => simp [intOf]; omega
        · rw [szR_no hw]
          have hR : Hid (szR L (wSkyRowS l) = -1) := szR_no (by
            have h3 := HS.out; have h4 := hs.out; have h5 := HT.out
            unfold wSkyRowS; omega)
          go_wp2
          go_ret
          exact ⟨by rw [hR.out]; rfl, hb2⟩
      · have hR : Hid (szR L (wSkyRowS l) = L - l.length - s) := by
          have h4 := hs.out
          rw [List.take_of_length_le (by omega)] at h4
          have : szR L (wSkyRowS l) = L - (wSkyRowS l : Nat) := szR_yes (by unfold wSkyRowS; omega)
          show _ = _
          rw [this]; unfold wSkyRowS; omega
        go_wp2
        go_ret
        exact ⟨by rw [hR.out]; rfl, hb⟩
  · have hR : Hid (szR L (wSkyRowS l) = -1) := szR_no (by unfold wSkyRowS; omega)
    go_enter Try.func17, Try.ntmps17
    go_wp2
    go_ret
    exact ⟨by rw [hR.out]; rfl, Below.refl _ _⟩

set_option maxHeartbeats 1000000 in
theorem toSkyRow_any (x : DSkyRow) (ao2 : Option Addr) (cap2 : Nat) (w : World) (p2 : SliceAt vSkyRun (old w) w ao2 cap2 x.2.2) (hn : wSkyRow x ≤ 1048576) :
    Calls Try.prog 32 #[.agg #[.int .i64 x.1, .int .i64 x.2.1, .slice ao2 x.2.2.length cap2]] w fun e w' => ∃ ao2' cap2', e = .returned (.agg #[.int .i64 x.1, .int .i64 x.2.1, .slice ao2' x.2.2.length cap2']) ∧ SliceAt vSkyRun (fresh w w') w' ao2' cap2' x.2.2 ∧ Below w.heap.size w w' := by
  have s2 : wSkyRunS x.2.2 ≤ 1048576 := by unfold wSkyRow at hn; omega
  clear hn
  go_enter Try.func32, Try.ntmps32
  go_wp2_with fail
  have b2 : Below w.heap.size w (((w.alloc (.cells #[.int .i64 x.1, .int .i64 x.2.1, .slice ao2 x.2.2.length cap2] 68)).alloc (.cells #[.int .i64 0, .int .i64 0, .slice none 0 0] 50)).alloc (.cells #[.int .i64 x.1, .int .i64 x.2.1, .slice none 0 0] 50)) := (((Below.refl w.heap.size w).alloc (Nat.le_refl _) _).alloc (by simp) _).alloc (by simp; try omega) _
  refine (toSkyRunS_any ao2 cap2 x.2.2 _ s2 (p2.later b2)).mono ?_
  rintro e w2 ⟨ao2', cap2', rfl, q2, g2⟩
  have b2' := b2.trans (g2.mono b2.size)
  obtain ⟨hc2, hf2⟩ := bcell g2
  have z2 := g2.size
  try simp at z2 hc2 hf2
  have y20 : w.heap.size < w2.heap.size := by omega
  have y21 : w.heap.size + 1 < w2.heap.size := by omega
  have y22 : w.heap.size + 1 + 1 < w2.heap.size := by omega
  go_wp2
  refine bodyPost_ret (v := .agg #[.int .i64 x.1, .int .i64 x.2.1, .slice ao2' x.2.2.length cap2']) (by simp [results, Try.results32, go_sem, hc2, hf2, y20, y21, y22]) rfl ⟨ao2', cap2', rfl, ?_, ?_⟩
  · refine SliceAt.mono (q2.stays ?_) ?_
    · intro b hb
      have hb1 := hb.1
      have hb2 := hb.2
      simp at hb1 hb2
      have hne1 : b ≠ w.heap.size + 1 := by omega
      have hne2 : b ≠ w.heap.size + 1 + 1 := by omega
      simp [Below.heap_setCell, hne1, hne2]
    · intro b hb
      have hb1 := hb.1
      have hb2 := hb.2
      simp at hb1 hb2
      exact ⟨by omega, by simp; omega⟩
  · repeat (first | refine Below.setCell ?_ (by simp; try omega) _ | exact b2')

theorem Try.info_SkyRow : (Try.prog.info? 50).map (fun i => (i.zero, i.size, i.bytes)) = some (some (.agg #[.int .i64 0, .int .i64 0, .slice none 0 0]), 3, 40) := by kernel_rfl

set_option maxHeartbeats 1000000 in
theorem toSkyRowS_any (ao : Option Addr) (cap : Nat) (l : List DSkyRow) (w : World) (hn : wSkyRowS l ≤ 1048576) (h : SliceAt vSkyRow (old w) w ao cap l) :
    Calls Try.prog 20 #[.slice ao l.length cap] w fun e w' => ∃ ao' cap', e = .returned (.slice ao' l.length cap') ∧ SliceAt vSkyRow (fresh w w') w' ao' cap' l ∧ Below w.heap.size w w' := by
  have hl : l.length ≤ 1048576 := by unfold wSkyRowS at hn; omega
  obtain ⟨i0, hi, hz0, hz1, hz2⟩ := info_parts Try.info_SkyRow
  go_enter Try.func20, Try.ntmps20
  go_wp2_with (at_make; refine wpList_make_full _ rfl _ _ 31 rfl w.heap.size 50 i0 _ 3 Try.underlying31 hi hz0 hz1 _ _ _ _ l.length rfl rfl rfl rfl ?c1 ?c2 ?c3 ?_)
  case c1 => rw [hz2]; omega
  case c2 => unfold maxLen; omega
  case c3 => exact Nat.le_refl _
  intro w1 hown hgr
  have hR0 : RowAt vSkyRow w1 w.heap.size 50 0 l := RowAt.start rfl hown
  have hB0 : Below w.heap.size w w1 := (Below.refl _ _).grown hgr (Nat.le_refl _) (by intro k hk; cases hk)
  clear hown hgr hi hz0 hz1 hz2
  go_wp2
  go_loopw [4] (fun i wr => ∃ k : Nat, k ≤ l.length ∧ i = .int .i64 k ∧ Below w.heap.size w wr ∧ RowAt vSkyRow wr w.heap.size 50 k l) (fun i _ => l.length - (intOf i).toNat)
  case atStart => exact ⟨0, Nat.zero_le _, rfl, hB0, hR0⟩
  case round =>
    obtain ⟨k, hk, rfl, hbel, hR⟩ := hrel
    by_cases hlt : k < l.length
    · obtain ⟨b, off, ao2, cap2, rfl, hok, c0, c1, c2, p0, p1, p2⟩ := elem_SkyRow h hlt
      have d0 := (hbel.cell (p := ⟨b, off + k * 3, none⟩) hok).trans c0
      have d1 := (hbel.cell (p := ⟨b, off + k * 3 + 1, none⟩) hok).trans c1
      have d2 := (hbel.cell (p := ⟨b, off + k * 3 + 2, none⟩) hok).trans c2
      have t : wSkyRow l[k] ≤ 1048576 := by have h1 := sum_elem wSkyRow l k hlt; unfold wSkyRowS at hn; omega
      clear c0 c1 c2 hR0 hB0
      go_wp2_with fail
      refine (toSkyRow_any _ _ _ _ (p2.later hbel) t).mono ?_
      rintro e w2 ⟨ao2', cap2', rfl, q2, hb2⟩
      have hR2 := hR.later hb2
      have hB2 := hbel.trans (hb2.mono hbel.size)
      have hR3 := hR2.store hlt (mk_SkyRow p0 p1 (q2.mono (fun b hb => ⟨Nat.lt_of_lt_of_le hR.lt hb.1, hb.2⟩)))
      have hB3 := put_below w.heap.size w.heap.size (Nat.le_refl _) [.int .i64 l[k].1, .int .i64 l[k].2.1, .slice ao2' l[k].2.2.length cap2'] _ _ (k * 3) hB2
      obtain ⟨u0, e0⟩ := hR2.cell (i := k * 3) (by rw [vSkyRow_size]; omega)
      obtain ⟨u1, e1⟩ := hR2.cell (i := k * 3 + 1) (by rw [vSkyRow_size]; omega)
      obtain ⟨u2, e2⟩ := hR2.cell (i := k * 3 + 2) (by rw [vSkyRow_size]; omega)
      have f0 := hR2.free (k * 3)
      have f1 := hR2.free (k * 3 + 1)
      have f2 := hR2.free (k * 3 + 2)
      clear hR hR2 hB2 hb2
      go_wp2
      go_roundw
      case rel => exact ⟨k + 1, by omega, by go_num, hB3, hR3⟩
      case measure => simp [intOf]; omega
    · have hk2 : k = l.length := by omega
      subst hk2
      have hS := hR.done (by unfold maxLen; omega)
      go_wp2
      go_ret
      exact ⟨_, _, rfl, hS, hbel⟩

set_option maxHeartbeats 400000 in
theorem eqSkyRow_any (x : DSkyRow) (ao2 : Option Addr) (cap2 : Nat) (ao2' : Option Addr) (cap2' : Nat) (w : World) (p2 : SliceAt vSkyRun (old w) w ao2 cap2 x.2.2) (p2' : SliceAt vSkyRun (old w) w ao2' cap2' x.2.2) (hn : wSkyRow x ≤ 1048576) :
    Calls Try.prog 34 #[.agg #[.int .i64 x.1, .int .i64 x.2.1, .slice ao2 x.2.2.length cap2], .agg #[.int .i64 x.1, .int .i64 x.2.1, .slice ao2' x.2.2.length cap2']] w fun e w' => e = .returned (.bool true) ∧ Below w.heap.size w w' := by
  have s2 : wSkyRunS x.2.2 ≤ 1048576 := by unfold wSkyRow at hn; omega
  clear hn
  go_enter Try.func34, Try.ntmps34
  go_wp2_with fail
  have b2 : Below w.heap.size w _ := ((Below.refl w.heap.size w).alloc (Nat.le_refl _) (.cells #[.int .i64 x.1, .int .i64 x.2.1, .slice ao2 x.2.2.length cap2] 50)).alloc (by simp) (.cells #[.int .i64 x.1, .int .i64 x.2.1, .slice ao2' x.2.2.length cap2'] 50)
  refine (eqSkyRunS_any ao2 ao2' cap2 cap2' x.2.2 _ s2 (p2.later b2) (p2'.later b2)).mono ?_
  rintro e w2 ⟨rfl, g2⟩
  have b2' := b2.trans (g2.mono b2.size)
  obtain ⟨hc2, hf2⟩ := bcell g2
  have z2 := g2.size
  try simp at z2 hc2 hf2
  have y20 : w.heap.size < w2.heap.size := by omega
  have y21 : w.heap.size + 1 < w2.heap.size := by omega
  go_wp2
  go_ret
  exact ⟨rfl, b2'⟩

set_option maxHeartbeats 1000000 in
theorem eqSkyRowS_any (ao bo : Option Addr) (ca cb : Nat) (l : List DSkyRow) (w : World) (hn : wSkyRowS l ≤ 1048576) (ha : SliceAt vSkyRow (old w) w ao ca l) (hb : SliceAt vSkyRow (old w) w bo cb l) :
    Calls Try.prog 23 #[.slice ao l.length ca, .slice bo l.length cb] w fun e w' => e = .returned (.bool true) ∧ Below w.heap.size w w' := by
  have hl : l.length ≤ 1048576 := by unfold wSkyRowS at hn; omega
  go_enter Try.func23, Try.ntmps23
  go_wp2
  go_loopw [5] (fun i wr => ∃ k : Nat, k ≤ l.length ∧ i = .int .i64 k ∧ Below w.heap.size w wr) (fun i _ => l.length - (intOf i).toNat)
  case atStart => exact ⟨0, Nat.zero_le _, rfl, Below.refl _ _⟩
  case round =>
    obtain ⟨k, hk, rfl, hbel⟩ := hrel
    by_cases hlt : k < l.length
    · obtain ⟨b, off, ao2, cap2, rfl, hok, c0, c1, c2, _, _, p2⟩ := elem_SkyRow ha hlt
      obtain ⟨b', off', ao2', cap2', rfl, hok', c0', c1', c2', _, _, p2'⟩ := elem_SkyRow hb hlt
      have d0 := (hbel.cell (p := ⟨b, off + k * 3, none⟩) hok).trans c0
      have d1 := (hbel.cell (p := ⟨b, off + k * 3 + 1, none⟩) hok).trans c1
      have d2 := (hbel.cell (p := ⟨b, off + k * 3 + 2, none⟩) hok).trans c2
      have d0' := (hbel.cell (p := ⟨b', off' + k * 3, none⟩) hok').trans c0'
      have d1' := (hbel.cell (p := ⟨b', off' + k * 3 + 1, none⟩) hok').trans c1'
      have d2' := (hbel.cell (p := ⟨b', off' + k * 3 + 2, none⟩) hok').trans c2'
      have q2 := p2.later hbel
      have q2' := p2'.later hbel
      have t : wSkyRow l[k] ≤ 1048576 := by have h1 := sum_elem wSkyRow l k hlt; unfold wSkyRowS at hn; omega
      generalize l[k] = x at *
      have hsz := hbel.size
      clear c0 c1 c2 c0' c1' c2' ha hb
      go_wp2
      go_region_with (go_at_call 34; refine (eqSkyRow_any _ _ _ _ _ _ (q2.later (below_drewN (Below.refl _ _) 1)) (q2'.later (below_drewN (Below.refl _ _) 1)) t).mono ?_; rintro e w1 ⟨rfl, hb1⟩)
      all_goals
        go_wp2
        go_roundw
        case rel => exact ⟨k + 1, by omega, by go_num, hbel.trans (Below.trans (below_drewN (Below.refl _ _) 1) (hb1.mono hsz))⟩
        case measure => simp [intOf]; omega
    · go_wp2
      go_ret
      exact ⟨rfl, hbel⟩

end Go.Proofs.Ythbjofobilfbpaa
