/- DERIVED. By gv.py: data, view and the laws' own functions over FlyPath. -/
import Derived.Test.YtfjeiegoblaadaaRows
import Derived.Test.YtfjeiegoblaadaaVw1
import Derived.Test.YtfjeiegoblaadaaVFlyKind
import Derived.Test.YtfjeiegoblaadaaVFlyStep
namespace Go.Proofs.Ytfjeiegoblaadaa
open Go.RowKit
set_option linter.unusedSimpArgs false
set_option linter.unusedVariables false

abbrev DFlyPath := DFlyKind × List DFlyStep × Int × Int
def vFlyPath : View DFlyPath := vPair vFlyKind (vPair (vSlice vFlyStep) (vPair vInt vInt))
theorem vFlyPath_size : vFlyPath.size = 5 := rfl

theorem cells_FlyPath {ok : Nat → Prop} {w : World} {c : List Value} {x : DFlyPath} (h : vFlyPath.rel ok w c x) :
    ∃ ao2 cap2, c = [.int .i64 x.1.1, .int .i64 x.1.2, .slice ao2 x.2.1.length cap2, .int .i64 x.2.2.1, .int .i64 x.2.2.2] ∧ In64 x.1.1 ∧ In64 x.1.2 ∧ SliceAt vFlyStep ok w ao2 cap2 x.2.1 ∧ In64 x.2.2.1 ∧ In64 x.2.2.2 := by
  obtain ⟨c0, r0, rfl, t0, c2, r2, rfl, ⟨ao2, cap2, rfl, p2⟩, c3, r3, rfl, ⟨rfl, p3⟩, rfl, p4⟩ := h
  obtain ⟨rfl, p0, p1⟩ := cells_FlyKind t0
  exact ⟨ao2, cap2, rfl, p0, p1, p2, p3, p4⟩

theorem mk_FlyPath {ok : Nat → Prop} {w : World} {x : DFlyPath} {ao2 : Option Addr} {cap2 : Nat} (p0 : In64 x.1.1) (p1 : In64 x.1.2) (p2 : SliceAt vFlyStep ok w ao2 cap2 x.2.1) (p3 : In64 x.2.2.1) (p4 : In64 x.2.2.2) : vFlyPath.rel ok w [.int .i64 x.1.1, .int .i64 x.1.2, .slice ao2 x.2.1.length cap2, .int .i64 x.2.2.1, .int .i64 x.2.2.2] x :=
  ⟨[_, _], _, rfl, mk_FlyKind p0 p1, [_], _, rfl, ⟨_, _, rfl, p2⟩, [_], _, rfl, ⟨rfl, p3⟩, rfl, p4⟩

theorem elem_FlyPath {ok : Nat → Prop} {w : World} {ao : Option Addr} {cap : Nat} {l : List DFlyPath} (h : SliceAt vFlyPath ok w ao cap l) {i : Nat} (hi : i < l.length) :
    ∃ b off, ∃ ao2 cap2, ao = some ⟨b, off, none⟩ ∧ ok b ∧ w.cell? ⟨b, off + i * 5, none⟩ = some (.int .i64 (l[i]'hi).1.1) ∧ w.cell? ⟨b, off + i * 5 + 1, none⟩ = some (.int .i64 (l[i]'hi).1.2) ∧ w.cell? ⟨b, off + i * 5 + 2, none⟩ = some (.slice ao2 (l[i]'hi).2.1.length cap2) ∧ w.cell? ⟨b, off + i * 5 + 3, none⟩ = some (.int .i64 (l[i]'hi).2.2.1) ∧ w.cell? ⟨b, off + i * 5 + 4, none⟩ = some (.int .i64 (l[i]'hi).2.2.2) ∧ In64 (l[i]'hi).1.1 ∧ In64 (l[i]'hi).1.2 ∧ SliceAt vFlyStep ok w ao2 cap2 (l[i]'hi).2.1 ∧ In64 (l[i]'hi).2.2.1 ∧ In64 (l[i]'hi).2.2.2 := by
  obtain ⟨b, off, c, h1, h2, h3, h4⟩ := h.elem hi
  obtain ⟨ao2, cap2, rfl, p0, p1, p2, p3, p4⟩ := cells_FlyPath h3
  exact ⟨b, off, ao2, cap2, h1, h2, h4 0 (by decide), h4 1 (by decide), h4 2 (by decide), h4 3 (by decide), h4 4 (by decide), p0, p1, p2, p3, p4⟩

def wFlyPath (x : DFlyPath) : Nat := wFlyStepS x.2.1
def wFlyPathS (l : List DFlyPath) : Nat := l.length + (l.map wFlyPath).sum

set_option maxHeartbeats 400000 in
theorem szFlyPath_any (x : DFlyPath) (ao2 : Option Addr) (cap2 : Nat) (L : Int) (w : World) (h0 : 0 ≤ L) (h1 : L ≤ 1048576) (p2 : SliceAt vFlyStep (old w) w ao2 cap2 x.2.1) :
    Calls Try.prog 10 #[.agg #[.int .i64 x.1.1, .int .i64 x.1.2, .slice ao2 x.2.1.length cap2, .int .i64 x.2.2.1, .int .i64 x.2.2.2], .int .i64 L] w fun e w' => e = .returned (.int .i64 (szR L (wFlyPath x))) ∧ Below w.heap.size w w' := by
  go_enter Try.func10, Try.ntmps10
  go_wp2_with fail
  refine (szFlyStepS_any _ _ _ _ _ (by omega) (by omega) (p2.later (by repeat (first | exact Below.refl _ _ | refine Below.alloc ?_ (by simp; try omega) _)))).mono ?_
  rintro e w2 ⟨rfl, g2⟩
  have b2 : Below w.heap.size w w2 := Below.trans (by repeat (first | exact Below.refl _ _ | refine Below.alloc ?_ (by simp; try omega) _)) (g2.mono (by first | exact Nat.le_refl _ | (simp; done) | (simp; omega) | exact b2.size))
  obtain ⟨hc2, hf2⟩ := bcell g2
  have z2 := g2.size
  try simp at z2 hc2 hf2
  have y2 : w.heap.size < w2.heap.size := by omega
  by_cases n2 : ((wFlyStepS x.2.1 : Nat) : Int) ≤ L
  · rw [szR_yes n2]
    have HR : Hid (szR L (wFlyPath x) = L - (wFlyStepS x.2.1 : Nat)) := by
      have h : szR L (wFlyPath x) = L - (wFlyPath x : Nat) := szR_yes (by unfold wFlyPath; omega)
      show _ = _
      rw [h]; unfold wFlyPath; omega
    go_wp2
    go_ret
    exact ⟨by rw [HR.out]; rfl, b2⟩
  · rw [szR_no n2]
    have HR : Hid (szR L (wFlyPath x) = -1) := szR_no (by unfold wFlyPath; omega)
    go_wp2
    go_ret
    exact ⟨by rw [HR.out]; rfl, b2⟩

set_option maxHeartbeats 1000000 in
theorem toFlyPath_any (x : DFlyPath) (ao2 : Option Addr) (cap2 : Nat) (w : World) (p2 : SliceAt vFlyStep (old w) w ao2 cap2 x.2.1) (hn : wFlyPath x ≤ 1048576) :
    Calls Try.prog 12 #[.agg #[.int .i64 x.1.1, .int .i64 x.1.2, .slice ao2 x.2.1.length cap2, .int .i64 x.2.2.1, .int .i64 x.2.2.2]] w fun e w' => ∃ ao2' cap2', e = .returned (.agg #[.int .i64 x.1.1, .int .i64 x.1.2, .slice ao2' x.2.1.length cap2', .int .i64 x.2.2.1, .int .i64 x.2.2.2]) ∧ SliceAt vFlyStep (fresh w w') w' ao2' cap2' x.2.1 ∧ Below w.heap.size w w' := by
  have s2 : wFlyStepS x.2.1 ≤ 1048576 := by unfold wFlyPath at hn; omega
  clear hn
  go_enter Try.func12, Try.ntmps12
  go_wp2_with fail
  have b0 : Below w.heap.size w (((w.alloc (.cells #[.int .i64 x.1.1, .int .i64 x.1.2, .slice ao2 x.2.1.length cap2, .int .i64 x.2.2.1, .int .i64 x.2.2.2] 30)).alloc (.cells #[.int .i64 0, .int .i64 0, .slice none 0 0, .int .i64 0, .int .i64 0] 35)).alloc (.cells #[.int .i64 0, .int .i64 0, .slice none 0 0, .int .i64 0, .int .i64 0] 35)) := (((Below.refl w.heap.size w).alloc (Nat.le_refl _) _).alloc (by simp) _).alloc (by simp; try omega) _
  refine (toFlyKind_any x.1 _).mono ?_
  rintro e w0 ⟨rfl, g0⟩
  have b0' := b0.trans (g0.mono b0.size)
  obtain ⟨hc0, hf0⟩ := bcell g0
  have z0 := g0.size
  try simp at z0 hc0 hf0
  have y00 : w.heap.size < w0.heap.size := by omega
  have y01 : w.heap.size + 1 < w0.heap.size := by omega
  have y02 : w.heap.size + 1 + 1 < w0.heap.size := by omega
  go_wp2_with fail
  have b2 : Below w.heap.size w ((w0.setCell ⟨w.heap.size + 1 + 1, 0, none⟩ (.int .i64 x.1.1)).setCell ⟨w.heap.size + 1 + 1, 1, none⟩ (.int .i64 x.1.2)) := ((b0'.setCell (p := ⟨w.heap.size + 1 + 1, 0, none⟩) (by simp; try omega) _).setCell (p := ⟨w.heap.size + 1 + 1, 1, none⟩) (by simp; try omega) _)
  refine (toFlyStepS_any ao2 cap2 x.2.1 _ s2 (p2.later b2)).mono ?_
  rintro e w2 ⟨ao2', cap2', rfl, q2, g2⟩
  have b2' := b2.trans (g2.mono b2.size)
  obtain ⟨hc2, hf2⟩ := bcell g2
  have z2 := g2.size
  try simp at z2 hc2 hf2
  have y20 : w.heap.size < w2.heap.size := by omega
  have y21 : w.heap.size + 1 < w2.heap.size := by omega
  have y22 : w.heap.size + 1 + 1 < w2.heap.size := by omega
  go_wp2
  refine bodyPost_ret (v := .agg #[.int .i64 x.1.1, .int .i64 x.1.2, .slice ao2' x.2.1.length cap2', .int .i64 x.2.2.1, .int .i64 x.2.2.2]) (by simp [results, Try.results12, go_sem, hc0, hf0, y00, y01, y02, hc2, hf2, y20, y21, y22]) rfl ⟨ao2', cap2', rfl, ?_, ?_⟩
  · refine SliceAt.mono (q2.stays ?_) ?_
    · intro b hb
      have hb1 := hb.1
      have hb2 := hb.2
      simp at hb1 hb2
      have hne1 : b ≠ w.heap.size + 1 := by omega
      have hne2 : b ≠ w.heap.size + 1 + 1 := by omega
      simp [Below.heap_setCell, hne1, hne2]
    · intro b hb
      have hb1 := hb.1
      have hb2 := hb.2
      simp at hb1 hb2
      exact ⟨by omega, by simp; omega⟩
  · repeat (first | refine Below.setCell ?_ (by simp; try omega) _ | exact b2')

set_option maxHeartbeats 400000 in
theorem eqFlyPath_any (x : DFlyPath) (ao2 : Option Addr) (cap2 : Nat) (ao2' : Option Addr) (cap2' : Nat) (w : World) (p2 : SliceAt vFlyStep (old w) w ao2 cap2 x.2.1) (p2' : SliceAt vFlyStep (old w) w ao2' cap2' x.2.1) (hn : wFlyPath x ≤ 1048576) :
    Calls Try.prog 14 #[.agg #[.int .i64 x.1.1, .int .i64 x.1.2, .slice ao2 x.2.1.length cap2, .int .i64 x.2.2.1, .int .i64 x.2.2.2], .agg #[.int .i64 x.1.1, .int .i64 x.1.2, .slice ao2' x.2.1.length cap2', .int .i64 x.2.2.1, .int .i64 x.2.2.2]] w fun e w' => e = .returned (.bool true) ∧ Below w.heap.size w w' := by
  have s2 : wFlyStepS x.2.1 ≤ 1048576 := by unfold wFlyPath at hn; omega
  clear hn
  go_enter Try.func14, Try.ntmps14
  go_wp2_with fail
  have b0 : Below w.heap.size w _ := ((Below.refl w.heap.size w).alloc (Nat.le_refl _) (.cells #[.int .i64 x.1.1, .int .i64 x.1.2, .slice ao2 x.2.1.length cap2, .int .i64 x.2.2.1, .int .i64 x.2.2.2] 35)).alloc (by simp) (.cells #[.int .i64 x.1.1, .int .i64 x.1.2, .slice ao2' x.2.1.length cap2', .int .i64 x.2.2.1, .int .i64 x.2.2.2] 35)
  refine (eqFlyKind_any x.1 _).mono ?_
  rintro e w0 ⟨rfl, g0⟩
  have b0' := b0.trans (g0.mono b0.size)
  obtain ⟨hc0, hf0⟩ := bcell g0
  have z0 := g0.size
  try simp at z0 hc0 hf0
  have y00 : w.heap.size < w0.heap.size := by omega
  have y01 : w.heap.size + 1 < w0.heap.size := by omega
  go_wp2_with fail
  have b2 := b0'
  refine (eqFlyStepS_any ao2 ao2' cap2 cap2' x.2.1 _ s2 (p2.later b2) (p2'.later b2)).mono ?_
  rintro e w2 ⟨rfl, g2⟩
  have b2' := b2.trans (g2.mono b2.size)
  obtain ⟨hc2, hf2⟩ := bcell g2
  have z2 := g2.size
  try simp at z2 hc2 hf2
  have y20 : w.heap.size < w2.heap.size := by omega
  have y21 : w.heap.size + 1 < w2.heap.size := by omega
  go_wp2
  go_ret
  exact ⟨rfl, b2'⟩

end Go.Proofs.Ytfjeiegoblaadaa
