/- DERIVED. By gv.py: data, view and the laws' own functions over Sky. -/
import Derived.Test.YthkpjljhjdjbfaaDoorRows
import Derived.Test.YthkpjljhjdjbfaaDoorVw1
import Derived.Test.YthkpjljhjdjbfaaDoorVSkyPoint
import Derived.Test.YthkpjljhjdjbfaaDoorVSkyAirway
import Derived.Test.YthkpjljhjdjbfaaDoorVSkySector
import Derived.Test.YthkpjljhjdjbfaaDoorVSkyRunway
namespace Go.Proofs.YthkpjljhjdjbfaaDoor
open Go.RowKit
set_option linter.unusedSimpArgs false
set_option linter.unusedVariables false

abbrev DSky := Int × Int × Int × List DSkyPoint × List DSkyAirway × List DSkySector × List DSkyRunway
def vSky : View DSky := vPair vInt (vPair vInt (vPair vInt (vPair (vSlice vSkyPoint) (vPair (vSlice vSkyAirway) (vPair (vSlice vSkySector) (vSlice vSkyRunway))))))
theorem vSky_size : vSky.size = 7 := rfl

theorem cells_Sky {ok : Nat → Prop} {w : World} {c : List Value} {x : DSky} (h : vSky.rel ok w c x) :
    ∃ ao3 cap3, ∃ ao4 cap4, ∃ ao5 cap5, ∃ ao6 cap6, c = [.int .i64 x.1, .int .i64 x.2.1, .int .i64 x.2.2.1, .slice ao3 x.2.2.2.1.length cap3, .slice ao4 x.2.2.2.2.1.length cap4, .slice ao5 x.2.2.2.2.2.1.length cap5, .slice ao6 x.2.2.2.2.2.2.length cap6] ∧ In64 x.1 ∧ In64 x.2.1 ∧ In64 x.2.2.1 ∧ SliceAt vSkyPoint ok w ao3 cap3 x.2.2.2.1 ∧ SliceAt vSkyAirway ok w ao4 cap4 x.2.2.2.2.1 ∧ SliceAt vSkySector ok w ao5 cap5 x.2.2.2.2.2.1 ∧ SliceAt vSkyRunway ok w ao6 cap6 x.2.2.2.2.2.2 := by
  obtain ⟨c0, r0, rfl, ⟨rfl, p0⟩, c1, r1, rfl, ⟨rfl, p1⟩, c2, r2, rfl, ⟨rfl, p2⟩, c3, r3, rfl, ⟨ao3, cap3, rfl, p3⟩, c4, r4, rfl, ⟨ao4, cap4, rfl, p4⟩, c5, r5, rfl, ⟨ao5, cap5, rfl, p5⟩, ao6, cap6, rfl, p6⟩ := h
  exact ⟨ao3, cap3, ao4, cap4, ao5, cap5, ao6, cap6, rfl, p0, p1, p2, p3, p4, p5, p6⟩

theorem mk_Sky {ok : Nat → Prop} {w : World} {x : DSky} {ao3 : Option Addr} {cap3 : Nat} {ao4 : Option Addr} {cap4 : Nat} {ao5 : Option Addr} {cap5 : Nat} {ao6 : Option Addr} {cap6 : Nat} (p0 : In64 x.1) (p1 : In64 x.2.1) (p2 : In64 x.2.2.1) (p3 : SliceAt vSkyPoint ok w ao3 cap3 x.2.2.2.1) (p4 : SliceAt vSkyAirway ok w ao4 cap4 x.2.2.2.2.1) (p5 : SliceAt vSkySector ok w ao5 cap5 x.2.2.2.2.2.1) (p6 : SliceAt vSkyRunway ok w ao6 cap6 x.2.2.2.2.2.2) : vSky.rel ok w [.int .i64 x.1, .int .i64 x.2.1, .int .i64 x.2.2.1, .slice ao3 x.2.2.2.1.length cap3, .slice ao4 x.2.2.2.2.1.length cap4, .slice ao5 x.2.2.2.2.2.1.length cap5, .slice ao6 x.2.2.2.2.2.2.length cap6] x :=
  ⟨[_], _, rfl, ⟨rfl, p0⟩, [_], _, rfl, ⟨rfl, p1⟩, [_], _, rfl, ⟨rfl, p2⟩, [_], _, rfl, ⟨_, _, rfl, p3⟩, [_], _, rfl, ⟨_, _, rfl, p4⟩, [_], _, rfl, ⟨_, _, rfl, p5⟩, _, _, rfl, p6⟩

theorem elem_Sky {ok : Nat → Prop} {w : World} {ao : Option Addr} {cap : Nat} {l : List DSky} (h : SliceAt vSky ok w ao cap l) {i : Nat} (hi : i < l.length) :
    ∃ b off, ∃ ao3 cap3, ∃ ao4 cap4, ∃ ao5 cap5, ∃ ao6 cap6, ao = some ⟨b, off, none⟩ ∧ ok b ∧ w.cell? ⟨b, off + i * 7, none⟩ = some (.int .i64 (l[i]'hi).1) ∧ w.cell? ⟨b, off + i * 7 + 1, none⟩ = some (.int .i64 (l[i]'hi).2.1) ∧ w.cell? ⟨b, off + i * 7 + 2, none⟩ = some (.int .i64 (l[i]'hi).2.2.1) ∧ w.cell? ⟨b, off + i * 7 + 3, none⟩ = some (.slice ao3 (l[i]'hi).2.2.2.1.length cap3) ∧ w.cell? ⟨b, off + i * 7 + 4, none⟩ = some (.slice ao4 (l[i]'hi).2.2.2.2.1.length cap4) ∧ w.cell? ⟨b, off + i * 7 + 5, none⟩ = some (.slice ao5 (l[i]'hi).2.2.2.2.2.1.length cap5) ∧ w.cell? ⟨b, off + i * 7 + 6, none⟩ = some (.slice ao6 (l[i]'hi).2.2.2.2.2.2.length cap6) ∧ In64 (l[i]'hi).1 ∧ In64 (l[i]'hi).2.1 ∧ In64 (l[i]'hi).2.2.1 ∧ SliceAt vSkyPoint ok w ao3 cap3 (l[i]'hi).2.2.2.1 ∧ SliceAt vSkyAirway ok w ao4 cap4 (l[i]'hi).2.2.2.2.1 ∧ SliceAt vSkySector ok w ao5 cap5 (l[i]'hi).2.2.2.2.2.1 ∧ SliceAt vSkyRunway ok w ao6 cap6 (l[i]'hi).2.2.2.2.2.2 := by
  obtain ⟨b, off, c, h1, h2, h3, h4⟩ := h.elem hi
  obtain ⟨ao3, cap3, ao4, cap4, ao5, cap5, ao6, cap6, rfl, p0, p1, p2, p3, p4, p5, p6⟩ := cells_Sky h3
  exact ⟨b, off, ao3, cap3, ao4, cap4, ao5, cap5, ao6, cap6, h1, h2, h4 0 (by decide), h4 1 (by decide), h4 2 (by decide), h4 3 (by decide), h4 4 (by decide), h4 5 (by decide), h4 6 (by decide), p0, p1, p2, p3, p4, p5, p6⟩

def wSky (x : DSky) : Nat := wSkyPointS x.2.2.2.1 + wSkyAirwayS x.2.2.2.2.1 + wSkySectorS x.2.2.2.2.2.1 + wSkyRunwayS x.2.2.2.2.2.2
def wSkyS (l : List DSky) : Nat := l.length + (l.map wSky).sum

set_option maxHeartbeats 400000 in
theorem szSky_any (x : DSky) (ao3 : Option Addr) (cap3 : Nat) (ao4 : Option Addr) (cap4 : Nat) (ao5 : Option Addr) (cap5 : Nat) (ao6 : Option Addr) (cap6 : Nat) (L : Int) (w : World) (h0 : 0 ≤ L) (h1 : L ≤ 1048576) (p3 : SliceAt vSkyPoint (old w) w ao3 cap3 x.2.2.2.1) (p4 : SliceAt vSkyAirway (old w) w ao4 cap4 x.2.2.2.2.1) (p5 : SliceAt vSkySector (old w) w ao5 cap5 x.2.2.2.2.2.1) (p6 : SliceAt vSkyRunway (old w) w ao6 cap6 x.2.2.2.2.2.2) :
    Calls Tryd.prog 4 #[.agg #[.int .i64 x.1, .int .i64 x.2.1, .int .i64 x.2.2.1, .slice ao3 x.2.2.2.1.length cap3, .slice ao4 x.2.2.2.2.1.length cap4, .slice ao5 x.2.2.2.2.2.1.length cap5, .slice ao6 x.2.2.2.2.2.2.length cap6], .int .i64 L] w fun e w' => e = .returned (.int .i64 (szR L (wSky x))) ∧ Below w.heap.size w w' := by
  go_enter Tryd.func4, Tryd.ntmps4
  go_wp2_with fail
  refine (szSkyPointS_any _ _ _ _ _ (by omega) (by omega) (p3.later (by repeat (first | exact Below.refl _ _ | refine Below.alloc ?_ (by simp; try omega) _)))).mono ?_
  rintro e w3 ⟨rfl, g3⟩
  have b3 : Below w.heap.size w w3 := Below.trans (by repeat (first | exact Below.refl _ _ | refine Below.alloc ?_ (by simp; try omega) _)) (g3.mono (by first | exact Nat.le_refl _ | (simp; done) | (simp; omega) | exact b3.size))
  obtain ⟨hc3, hf3⟩ := bcell g3
  have z3 := g3.size
  try simp at z3 hc3 hf3
  have y3 : w.heap.size < w3.heap.size := by omega
  by_cases n3 : ((wSkyPointS x.2.2.2.1 : Nat) : Int) ≤ L
  · rw [szR_yes n3]
    go_wp2_with fail
    refine (szSkyAirwayS_any _ _ _ _ _ (by omega) (by omega) (p4.later (b3))).mono ?_
    rintro e w4 ⟨rfl, g4⟩
    have b4 : Below w.heap.size w w4 := Below.trans (b3) (g4.mono (by first | exact Nat.le_refl _ | (simp; done) | (simp; omega) | exact b3.size))
    obtain ⟨hc4, hf4⟩ := bcell g4
    have z4 := g4.size
    try simp at z4 hc4 hf4
    have y4 : w.heap.size < w4.heap.size := by omega
    by_cases n4 : ((wSkyAirwayS x.2.2.2.2.1 : Nat) : Int) ≤ L - (wSkyPointS x.2.2.2.1 : Nat)
    · rw [szR_yes n4]
      go_wp2_with fail
      refine (szSkySectorS_any _ _ _ _ _ (by omega) (by omega) (p5.later (b4))).mono ?_
      rintro e w5 ⟨rfl, g5⟩
      have b5 : Below w.heap.size w w5 := Below.trans (b4) (g5.mono (by first | exact Nat.le_refl _ | (simp; done) | (simp; omega) | exact b4.size))
      obtain ⟨hc5, hf5⟩ := bcell g5
      have z5 := g5.size
      try simp at z5 hc5 hf5
      have y5 : w.heap.size < w5.heap.size := by omega
      by_cases n5 : ((wSkySectorS x.2.2.2.2.2.1 : Nat) : Int) ≤ L - (wSkyPointS x.2.2.2.1 : Nat) - (wSkyAirwayS x.2.2.2.2.1 : Nat)
      · rw [szR_yes n5]
        go_wp2_with fail
        refine (szSkyRunwayS_any _ _ _ _ _ (by omega) (by omega) (p6.later (b5))).mono ?_
        rintro e w6 ⟨rfl, g6⟩
        have b6 : Below w.heap.size w w6 := Below.trans (b5) (g6.mono (by first | exact Nat.le_refl _ | (simp; done) | (simp; omega) | exact b5.size))
        obtain ⟨hc6, hf6⟩ := bcell g6
        have z6 := g6.size
        try simp at z6 hc6 hf6
        have y6 : w.heap.size < w6.heap.size := by omega
        by_cases n6 : ((wSkyRunwayS x.2.2.2.2.2.2 : Nat) : Int) ≤ L - (wSkyPointS x.2.2.2.1 : Nat) - (wSkyAirwayS x.2.2.2.2.1 : Nat) - (wSkySectorS x.2.2.2.2.2.1 : Nat)
        · rw [szR_yes n6]
          have HR : Hid (szR L (wSky x) = L - (wSkyPointS x.2.2.2.1 : Nat) - (wSkyAirwayS x.2.2.2.2.1 : Nat) - (wSkySectorS x.2.2.2.2.2.1 : Nat) - (wSkyRunwayS x.2.2.2.2.2.2 : Nat)) := by
            have h : szR L (wSky x) = L - (wSky x : Nat) := szR_yes (by unfold wSky; omega)
            show _ = _
            rw [h]; unfold wSky; omega
          go_wp2
          go_ret
          exact ⟨by rw [HR.out]; rfl, b6⟩
        · rw [szR_no n6]
          have HR : Hid (szR L (wSky x) = -1) := szR_no (by unfold wSky; omega)
          go_wp2
          go_ret
          exact ⟨by rw [HR.out]; rfl, b6⟩
      · rw [szR_no n5]
        have HR : Hid (szR L (wSky x) = -1) := szR_no (by unfold wSky; omega)
        go_wp2
        go_ret
        exact ⟨by rw [HR.out]; rfl, b5⟩
    · rw [szR_no n4]
      have HR : Hid (szR L (wSky x) = -1) := szR_no (by unfold wSky; omega)
      go_wp2
      go_ret
      exact ⟨by rw [HR.out]; rfl, b4⟩
  · rw [szR_no n3]
    have HR : Hid (szR L (wSky x) = -1) := szR_no (by unfold wSky; omega)
    go_wp2
    go_ret
    exact ⟨by rw [HR.out]; rfl, b3⟩

set_option maxHeartbeats 1000000 in
theorem toSky_any (x : DSky) (ao3 : Option Addr) (cap3 : Nat) (ao4 : Option Addr) (cap4 : Nat) (ao5 : Option Addr) (cap5 : Nat) (ao6 : Option Addr) (cap6 : Nat) (w : World) (p3 : SliceAt vSkyPoint (old w) w ao3 cap3 x.2.2.2.1) (p4 : SliceAt vSkyAirway (old w) w ao4 cap4 x.2.2.2.2.1) (p5 : SliceAt vSkySector (old w) w ao5 cap5 x.2.2.2.2.2.1) (p6 : SliceAt vSkyRunway (old w) w ao6 cap6 x.2.2.2.2.2.2) (hn : wSky x ≤ 1048576) :
    Calls Tryd.prog 6 #[.agg #[.int .i64 x.1, .int .i64 x.2.1, .int .i64 x.2.2.1, .slice ao3 x.2.2.2.1.length cap3, .slice ao4 x.2.2.2.2.1.length cap4, .slice ao5 x.2.2.2.2.2.1.length cap5, .slice ao6 x.2.2.2.2.2.2.length cap6]] w fun e w' => ∃ ao3' cap3', ∃ ao4' cap4', ∃ ao5' cap5', ∃ ao6' cap6', e = .returned (.agg #[.int .i64 x.1, .int .i64 x.2.1, .int .i64 x.2.2.1, .slice ao3' x.2.2.2.1.length cap3', .slice ao4' x.2.2.2.2.1.length cap4', .slice ao5' x.2.2.2.2.2.1.length cap5', .slice ao6' x.2.2.2.2.2.2.length cap6']) ∧ SliceAt vSkyPoint (fresh w w') w' ao3' cap3' x.2.2.2.1 ∧ SliceAt vSkyAirway (fresh w w') w' ao4' cap4' x.2.2.2.2.1 ∧ SliceAt vSkySector (fresh w w') w' ao5' cap5' x.2.2.2.2.2.1 ∧ SliceAt vSkyRunway (fresh w w') w' ao6' cap6' x.2.2.2.2.2.2 ∧ Below w.heap.size w w' := by
  have s3 : wSkyPointS x.2.2.2.1 ≤ 1048576 := by unfold wSky at hn; omega
  have s4 : wSkyAirwayS x.2.2.2.2.1 ≤ 1048576 := by unfold wSky at hn; omega
  have s5 : wSkySectorS x.2.2.2.2.2.1 ≤ 1048576 := by unfold wSky at hn; omega
  have s6 : wSkyRunwayS x.2.2.2.2.2.2 ≤ 1048576 := by unfold wSky at hn; omega
  clear hn
  go_enter Tryd.func6, Tryd.ntmps6
  go_wp2_with fail
  have b3 : Below w.heap.size w (((w.alloc (.cells #[.int .i64 x.1, .int .i64 x.2.1, .int .i64 x.2.2.1, .slice ao3 x.2.2.2.1.length cap3, .slice ao4 x.2.2.2.2.1.length cap4, .slice ao5 x.2.2.2.2.2.1.length cap5, .slice ao6 x.2.2.2.2.2.2.length cap6] 27)).alloc (.cells #[.int .i64 0, .int .i64 0, .int .i64 0, .slice none 0 0, .slice none 0 0, .slice none 0 0, .slice none 0 0] 38)).alloc (.cells #[.int .i64 x.1, .int .i64 x.2.1, .int .i64 x.2.2.1, .slice none 0 0, .slice none 0 0, .slice none 0 0, .slice none 0 0] 38)) := (((Below.refl w.heap.size w).alloc (Nat.le_refl _) _).alloc (by simp) _).alloc (by simp; try omega) _
  refine (toSkyPointS_any ao3 cap3 x.2.2.2.1 _ s3 (p3.later b3)).mono ?_
  rintro e w3 ⟨ao3', cap3', rfl, q3, g3⟩
  have b3' := b3.trans (g3.mono b3.size)
  obtain ⟨hc3, hf3⟩ := bcell g3
  have z3 := g3.size
  try simp at z3 hc3 hf3
  have y30 : w.heap.size < w3.heap.size := by omega
  have y31 : w.heap.size + 1 < w3.heap.size := by omega
  have y32 : w.heap.size + 1 + 1 < w3.heap.size := by omega
  go_wp2_with fail
  have b4 : Below w.heap.size w (w3.setCell ⟨w.heap.size + 1 + 1, 3, none⟩ (.slice ao3' x.2.2.2.1.length cap3')) := (b3'.setCell (p := ⟨w.heap.size + 1 + 1, 3, none⟩) (by simp; try omega) _)
  refine (toSkyAirwayS_any ao4 cap4 x.2.2.2.2.1 _ s4 (p4.later b4)).mono ?_
  rintro e w4 ⟨ao4', cap4', rfl, q4, g4⟩
  have b4' := b4.trans (g4.mono b4.size)
  obtain ⟨hc4, hf4⟩ := bcell g4
  have z4 := g4.size
  try simp at z4 hc4 hf4
  have y40 : w.heap.size < w4.heap.size := by omega
  have y41 : w.heap.size + 1 < w4.heap.size := by omega
  have y42 : w.heap.size + 1 + 1 < w4.heap.size := by omega
  go_wp2_with fail
  have b5 : Below w.heap.size w (w4.setCell ⟨w.heap.size + 1 + 1, 4, none⟩ (.slice ao4' x.2.2.2.2.1.length cap4')) := (b4'.setCell (p := ⟨w.heap.size + 1 + 1, 4, none⟩) (by simp; try omega) _)
  refine (toSkySectorS_any ao5 cap5 x.2.2.2.2.2.1 _ s5 (p5.later b5)).mono ?_
  rintro e w5 ⟨ao5', cap5', rfl, q5, g5⟩
  have b5' := b5.trans (g5.mono b5.size)
  obtain ⟨hc5, hf5⟩ := bcell g5
  have z5 := g5.size
  try simp at z5 hc5 hf5
  have y50 : w.heap.size < w5.heap.size := by omega
  have y51 : w.heap.size + 1 < w5.heap.size := by omega
  have y52 : w.heap.size + 1 + 1 < w5.heap.size := by omega
  go_wp2_with fail
  have b6 : Below w.heap.size w (w5.setCell ⟨w.heap.size + 1 + 1, 5, none⟩ (.slice ao5' x.2.2.2.2.2.1.length cap5')) := (b5'.setCell (p := ⟨w.heap.size + 1 + 1, 5, none⟩) (by simp; try omega) _)
  refine (toSkyRunwayS_any ao6 cap6 x.2.2.2.2.2.2 _ s6 (p6.later b6)).mono ?_
  rintro e w6 ⟨ao6', cap6', rfl, q6, g6⟩
  have b6' := b6.trans (g6.mono b6.size)
  obtain ⟨hc6, hf6⟩ := bcell g6
  have z6 := g6.size
  try simp at z6 hc6 hf6
  have y60 : w.heap.size < w6.heap.size := by omega
  have y61 : w.heap.size + 1 < w6.heap.size := by omega
  have y62 : w.heap.size + 1 + 1 < w6.heap.size := by omega
  go_wp2
  refine bodyPost_ret (v := .agg #[.int .i64 x.1, .int .i64 x.2.1, .int .i64 x.2.2.1, .slice ao3' x.2.2.2.1.length cap3', .slice ao4' x.2.2.2.2.1.length cap4', .slice ao5' x.2.2.2.2.2.1.length cap5', .slice ao6' x.2.2.2.2.2.2.length cap6']) (by simp [results, Tryd.results6, go_sem, hc3, hf3, y30, y31, y32, hc4, hf4, y40, y41, y42, hc5, hf5, y50, y51, y52, hc6, hf6, y60, y61, y62]) rfl ⟨ao3', cap3', ao4', cap4', ao5', cap5', ao6', cap6', rfl, ?_, ?_, ?_, ?_, ?_⟩
  · refine SliceAt.mono (q3.stays ?_) ?_
    · intro b hb
      have hb1 := hb.1
      have hb2 := hb.2
      simp at hb1 hb2
      have hne1 : b ≠ w.heap.size + 1 := by omega
      have hne2 : b ≠ w.heap.size + 1 + 1 := by omega
      have hl4 : b < w3.heap.size := by omega
      have hk4 := g4.block b (by simpa using hl4)
      have hl5 : b < w4.heap.size := by omega
      have hk5 := g5.block b (by simpa using hl5)
      have hl6 : b < w5.heap.size := by omega
      have hk6 := g6.block b (by simpa using hl6)
      simp [Below.heap_setCell, hne1, hne2, hk4, hk5, hk6]
    · intro b hb
      have hb1 := hb.1
      have hb2 := hb.2
      simp at hb1 hb2
      exact ⟨by omega, by simp; omega⟩
  · refine SliceAt.mono (q4.stays ?_) ?_
    · intro b hb
      have hb1 := hb.1
      have hb2 := hb.2
      simp at hb1 hb2
      have hne1 : b ≠ w.heap.size + 1 := by omega
      have hne2 : b ≠ w.heap.size + 1 + 1 := by omega
      have hl5 : b < w4.heap.size := by omega
      have hk5 := g5.block b (by simpa using hl5)
      have hl6 : b < w5.heap.size := by omega
      have hk6 := g6.block b (by simpa using hl6)
      simp [Below.heap_setCell, hne1, hne2, hk5, hk6]
    · intro b hb
      have hb1 := hb.1
      have hb2 := hb.2
      simp at hb1 hb2
      exact ⟨by omega, by simp; omega⟩
  · refine SliceAt.mono (q5.stays ?_) ?_
    · intro b hb
      have hb1 := hb.1
      have hb2 := hb.2
      simp at hb1 hb2
      have hne1 : b ≠ w.heap.size + 1 := by omega
      have hne2 : b ≠ w.heap.size + 1 + 1 := by omega
      have hl6 : b < w5.heap.size := by omega
      have hk6 := g6.block b (by simpa using hl6)
      simp [Below.heap_setCell, hne1, hne2, hk6]
    · intro b hb
      have hb1 := hb.1
      have hb2 := hb.2
      simp at hb1 hb2
      exact ⟨by omega, by simp; omega⟩
  · refine SliceAt.mono (q6.stays ?_) ?_
    · intro b hb
      have hb1 := hb.1
      have hb2 := hb.2
      simp at hb1 hb2
      have hne1 : b ≠ w.heap.size + 1 := by omega
      have hne2 : b ≠ w.heap.size + 1 + 1 := by omega
      simp [Below.heap_setCell, hne1, hne2]
    · intro b hb
      have hb1 := hb.1
      have hb2 := hb.2
      simp at hb1 hb2
      exact ⟨by omega, by simp; omega⟩
  · repeat (first | refine Below.setCell ?_ (by simp; try omega) _ | exact b6')

set_option maxHeartbeats 400000 in
theorem eqSky_any (x : DSky) (ao3 : Option Addr) (cap3 : Nat) (ao4 : Option Addr) (cap4 : Nat) (ao5 : Option Addr) (cap5 : Nat) (ao6 : Option Addr) (cap6 : Nat) (ao3' : Option Addr) (cap3' : Nat) (ao4' : Option Addr) (cap4' : Nat) (ao5' : Option Addr) (cap5' : Nat) (ao6' : Option Addr) (cap6' : Nat) (w : World) (p3 : SliceAt vSkyPoint (old w) w ao3 cap3 x.2.2.2.1) (p3' : SliceAt vSkyPoint (old w) w ao3' cap3' x.2.2.2.1) (p4 : SliceAt vSkyAirway (old w) w ao4 cap4 x.2.2.2.2.1) (p4' : SliceAt vSkyAirway (old w) w ao4' cap4' x.2.2.2.2.1) (p5 : SliceAt vSkySector (old w) w ao5 cap5 x.2.2.2.2.2.1) (p5' : SliceAt vSkySector (old w) w ao5' cap5' x.2.2.2.2.2.1) (p6 : SliceAt vSkyRunway (old w) w ao6 cap6 x.2.2.2.2.2.2) (p6' : SliceAt vSkyRunway (old w) w ao6' cap6' x.2.2.2.2.2.2) (hn : wSky x ≤ 1048576) :
    Calls Tryd.prog 9 #[.agg #[.int .i64 x.1, .int .i64 x.2.1, .int .i64 x.2.2.1, .slice ao3 x.2.2.2.1.length cap3, .slice ao4 x.2.2.2.2.1.length cap4, .slice ao5 x.2.2.2.2.2.1.length cap5, .slice ao6 x.2.2.2.2.2.2.length cap6], .agg #[.int .i64 x.1, .int .i64 x.2.1, .int .i64 x.2.2.1, .slice ao3' x.2.2.2.1.length cap3', .slice ao4' x.2.2.2.2.1.length cap4', .slice ao5' x.2.2.2.2.2.1.length cap5', .slice ao6' x.2.2.2.2.2.2.length cap6']] w fun e w' => e = .returned (.bool true) ∧ Below w.heap.size w w' := by
  have s3 : wSkyPointS x.2.2.2.1 ≤ 1048576 := by unfold wSky at hn; omega
  have s4 : wSkyAirwayS x.2.2.2.2.1 ≤ 1048576 := by unfold wSky at hn; omega
  have s5 : wSkySectorS x.2.2.2.2.2.1 ≤ 1048576 := by unfold wSky at hn; omega
  have s6 : wSkyRunwayS x.2.2.2.2.2.2 ≤ 1048576 := by unfold wSky at hn; omega
  clear hn
  go_enter Tryd.func9, Tryd.ntmps9
  go_wp2_with fail
  have b3 : Below w.heap.size w _ := ((Below.refl w.heap.size w).alloc (Nat.le_refl _) (.cells #[.int .i64 x.1, .int .i64 x.2.1, .int .i64 x.2.2.1, .slice ao3 x.2.2.2.1.length cap3, .slice ao4 x.2.2.2.2.1.length cap4, .slice ao5 x.2.2.2.2.2.1.length cap5, .slice ao6 x.2.2.2.2.2.2.length cap6] 38)).alloc (by simp) (.cells #[.int .i64 x.1, .int .i64 x.2.1, .int .i64 x.2.2.1, .slice ao3' x.2.2.2.1.length cap3', .slice ao4' x.2.2.2.2.1.length cap4', .slice ao5' x.2.2.2.2.2.1.length cap5', .slice ao6' x.2.2.2.2.2.2.length cap6'] 38)
  refine (eqSkyPointS_any ao3 ao3' cap3 cap3' x.2.2.2.1 _ s3 (p3.later b3) (p3'.later b3)).mono ?_
  rintro e w3 ⟨rfl, g3⟩
  have b3' := b3.trans (g3.mono b3.size)
  obtain ⟨hc3, hf3⟩ := bcell g3
  have z3 := g3.size
  try simp at z3 hc3 hf3
  have y30 : w.heap.size < w3.heap.size := by omega
  have y31 : w.heap.size + 1 < w3.heap.size := by omega
  go_wp2_with fail
  have b4 := b3'
  refine (eqSkyAirwayS_any ao4 ao4' cap4 cap4' x.2.2.2.2.1 _ s4 (p4.later b4) (p4'.later b4)).mono ?_
  rintro e w4 ⟨rfl, g4⟩
  have b4' := b4.trans (g4.mono b4.size)
  obtain ⟨hc4, hf4⟩ := bcell g4
  have z4 := g4.size
  try simp at z4 hc4 hf4
  have y40 : w.heap.size < w4.heap.size := by omega
  have y41 : w.heap.size + 1 < w4.heap.size := by omega
  go_wp2_with fail
  have b5 := b4'
  refine (eqSkySectorS_any ao5 ao5' cap5 cap5' x.2.2.2.2.2.1 _ s5 (p5.later b5) (p5'.later b5)).mono ?_
  rintro e w5 ⟨rfl, g5⟩
  have b5' := b5.trans (g5.mono b5.size)
  obtain ⟨hc5, hf5⟩ := bcell g5
  have z5 := g5.size
  try simp at z5 hc5 hf5
  have y50 : w.heap.size < w5.heap.size := by omega
  have y51 : w.heap.size + 1 < w5.heap.size := by omega
  go_wp2_with fail
  have b6 := b5'
  refine (eqSkyRunwayS_any ao6 ao6' cap6 cap6' x.2.2.2.2.2.2 _ s6 (p6.later b6) (p6'.later b6)).mono ?_
  rintro e w6 ⟨rfl, g6⟩
  have b6' := b6.trans (g6.mono b6.size)
  obtain ⟨hc6, hf6⟩ := bcell g6
  have z6 := g6.size
  try simp at z6 hc6 hf6
  have y60 : w.heap.size < w6.heap.size := by omega
  have y61 : w.heap.size + 1 < w6.heap.size := by omega
  go_wp2
  go_ret
  exact ⟨rfl, b6'⟩

end Go.Proofs.YthkpjljhjdjbfaaDoor
