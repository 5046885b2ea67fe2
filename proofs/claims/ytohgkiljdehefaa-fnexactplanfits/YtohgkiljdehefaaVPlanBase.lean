/- DERIVED. By gv.py: data, view and the laws' own functions over PlanBase. -/
import Derived.Test.YtohgkiljdehefaaRows
import Derived.Test.YtohgkiljdehefaaVw1
import Derived.Test.YtohgkiljdehefaaVPlanKind
import Derived.Test.YtohgkiljdehefaaVPlanPoint
namespace Go.Proofs.Ytohgkiljdehefaa
open Go.RowKit
set_option linter.unusedSimpArgs false
set_option linter.unusedVariables false

abbrev DPlanBase := List DPlanKind × List DPlanPoint
def vPlanBase : View DPlanBase := vPair (vSlice vPlanKind) (vSlice vPlanPoint)
theorem vPlanBase_size : vPlanBase.size = 2 := rfl

theorem cells_PlanBase {ok : Nat → Prop} {w : World} {c : List Value} {x : DPlanBase} (h : vPlanBase.rel ok w c x) :
    ∃ ao0 cap0, ∃ ao1 cap1, c = [.slice ao0 x.1.length cap0, .slice ao1 x.2.length cap1] ∧ SliceAt vPlanKind ok w ao0 cap0 x.1 ∧ SliceAt vPlanPoint ok w ao1 cap1 x.2 := by
  obtain ⟨c0, r0, rfl, ⟨ao0, cap0, rfl, p0⟩, ao1, cap1, rfl, p1⟩ := h
  exact ⟨ao0, cap0, ao1, cap1, rfl, p0, p1⟩

theorem mk_PlanBase {ok : Nat → Prop} {w : World} {x : DPlanBase} {ao0 : Option Addr} {cap0 : Nat} {ao1 : Option Addr} {cap1 : Nat} (p0 : SliceAt vPlanKind ok w ao0 cap0 x.1) (p1 : SliceAt vPlanPoint ok w ao1 cap1 x.2) : vPlanBase.rel ok w [.slice ao0 x.1.length cap0, .slice ao1 x.2.length cap1] x :=
  ⟨[_], _, rfl, ⟨_, _, rfl, p0⟩, _, _, rfl, p1⟩

theorem elem_PlanBase {ok : Nat → Prop} {w : World} {ao : Option Addr} {cap : Nat} {l : List DPlanBase} (h : SliceAt vPlanBase ok w ao cap l) {i : Nat} (hi : i < l.length) :
    ∃ b off, ∃ ao0 cap0, ∃ ao1 cap1, ao = some ⟨b, off, none⟩ ∧ ok b ∧ w.cell? ⟨b, off + i * 2, none⟩ = some (.slice ao0 (l[i]'hi).1.length cap0) ∧ w.cell? ⟨b, off + i * 2 + 1, none⟩ = some (.slice ao1 (l[i]'hi).2.length cap1) ∧ SliceAt vPlanKind ok w ao0 cap0 (l[i]'hi).1 ∧ SliceAt vPlanPoint ok w ao1 cap1 (l[i]'hi).2 := by
  obtain ⟨b, off, c, h1, h2, h3, h4⟩ := h.elem hi
  obtain ⟨ao0, cap0, ao1, cap1, rfl, p0, p1⟩ := cells_PlanBase h3
  exact ⟨b, off, ao0, cap0, ao1, cap1, h1, h2, h4 0 (by decide), h4 1 (by decide), p0, p1⟩

def wPlanBase (x : DPlanBase) : Nat := wPlanKindS x.1 + wPlanPointS x.2
def wPlanBaseS (l : List DPlanBase) : Nat := l.length + (l.map wPlanBase).sum

set_option maxHeartbeats 400000 in
theorem szPlanBase_any (x : DPlanBase) (ao0 : Option Addr) (cap0 : Nat) (ao1 : Option Addr) (cap1 : Nat) (L : Int) (w : World) (h0 : 0 ≤ L) (h1 : L ≤ 1048576) (p0 : SliceAt vPlanKind (old w) w ao0 cap0 x.1) (p1 : SliceAt vPlanPoint (old w) w ao1 cap1 x.2) :
    Calls Try.prog 8 #[.agg #[.slice ao0 x.1.length cap0, .slice ao1 x.2.length cap1], .int .i64 L] w fun e w' => e = .returned (.int .i64 (szR L (wPlanBase x))) ∧ Below w.heap.size w w' := by
  go_enter Try.func8, Try.ntmps8
  go_wp2_with fail
  refine (szPlanKindS_any _ _ _ _ _ (by omega) (by omega) (p0.later (by repeat (first | exact Below.refl _ _ | refine Below.alloc ?_ (by simp; try omega) _)))).mono ?_
  rintro e w0 ⟨rfl, g0⟩
  have b0 : Below w.heap.size w w0 := Below.trans (by repeat (first | exact Below.refl _ _ | refine Below.alloc ?_ (by simp; try omega) _)) (g0.mono (by first | exact Nat.le_refl _ | (simp; done) | (simp; omega) | exact b0.size))
  obtain ⟨hc0, hf0⟩ := bcell g0
  have z0 := g0.size
  try simp at z0 hc0 hf0
  have y0 : w.heap.size < w0.heap.size := by omega
  by_cases n0 : ((wPlanKindS x.1 : Nat) : Int) ≤ L
  · rw [szR_yes n0]
    go_wp2_with fail
    refine (szPlanPointS_any _ _ _ _ _ (by omega) (by omega) (p1.later (b0))).mono ?_
    rintro e w1 ⟨rfl, g1⟩
    have b1 : Below w.heap.size w w1 := Below.trans (b0) (g1.mono (by first | exact Nat.le_refl _ | (simp; done) | (simp; omega) | exact b0.size))
    obtain ⟨hc1, hf1⟩ := bcell g1
    have z1 := g1.size
    try simp at z1 hc1 hf1
    have y1 : w.heap.size < w1.heap.size := by omega
    by_cases n1 : ((wPlanPointS x.2 : Nat) : Int) ≤ L - (wPlanKindS x.1 : Nat)
    · rw [szR_yes n1]
      have HR : Hid (szR L (wPlanBase x) = L - (wPlanKindS x.1 : Nat) - (wPlanPointS x.2 : Nat)) := by
        have h : szR L (wPlanBase x) = L - (wPlanBase x : Nat) := szR_yes (by unfold wPlanBase; omega)
        show _ = _
        rw [h]; unfold wPlanBase; omega
      go_wp2
      go_ret
      exact ⟨by rw [HR.out]; rfl, b1⟩
    · rw [szR_no n1]
      have HR : Hid (szR L (wPlanBase x) = -1) := szR_no (by unfold wPlanBase; omega)
      go_wp2
      go_ret
      exact ⟨by rw [HR.out]; rfl, b1⟩
  · rw [szR_no n0]
    have HR : Hid (szR L (wPlanBase x) = -1) := szR_no (by unfold wPlanBase; omega)
    go_wp2
    go_ret
    exact ⟨by rw [HR.out]; rfl, b0⟩

set_option maxHeartbeats 1000000 in
theorem toPlanBase_any (x : DPlanBase) (ao0 : Option Addr) (cap0 : Nat) (ao1 : Option Addr) (cap1 : Nat) (w : World) (p0 : SliceAt vPlanKind (old w) w ao0 cap0 x.1) (p1 : SliceAt vPlanPoint (old w) w ao1 cap1 x.2) (hn : wPlanBase x ≤ 1048576) :
    Calls Try.prog 10 #[.agg #[.slice ao0 x.1.length cap0, .slice ao1 x.2.length cap1]] w fun e w' => ∃ ao0' cap0', ∃ ao1' cap1', e = .returned (.agg #[.slice ao0' x.1.length cap0', .slice ao1' x.2.length cap1']) ∧ SliceAt vPlanKind (fresh w w') w' ao0' cap0' x.1 ∧ SliceAt vPlanPoint (fresh w w') w' ao1' cap1' x.2 ∧ Below w.heap.size w w' := by
  have s0 : wPlanKindS x.1 ≤ 1048576 := by unfold wPlanBase at hn; omega
  have s1 : wPlanPointS x.2 ≤ 1048576 := by unfold wPlanBase at hn; omega
  clear hn
  go_enter Try.func10, Try.ntmps10
  go_wp2_with fail
  have b0 : Below w.heap.size w (((w.alloc (.cells #[.slice ao0 x.1.length cap0, .slice ao1 x.2.length cap1] 25)).alloc (.cells #[.slice none 0 0, .slice none 0 0] 31)).alloc (.cells #[.slice none 0 0, .slice none 0 0] 31)) := (((Below.refl w.heap.size w).alloc (Nat.le_refl _) _).alloc (by simp) _).alloc (by simp; try omega) _
  refine (toPlanKindS_any ao0 cap0 x.1 _ s0 (p0.later b0)).mono ?_
  rintro e w0 ⟨ao0', cap0', rfl, q0, g0⟩
  have b0' := b0.trans (g0.mono b0.size)
  obtain ⟨hc0, hf0⟩ := bcell g0
  have z0 := g0.size
  try simp at z0 hc0 hf0
  have y00 : w.heap.size < w0.heap.size := by omega
  have y01 : w.heap.size + 1 < w0.heap.size := by omega
  have y02 : w.heap.size + 1 + 1 < w0.heap.size := by omega
  go_wp2_with fail
  have b1 : Below w.heap.size w (w0.setCell ⟨w.heap.size + 1 + 1, 0, none⟩ (.slice ao0' x.1.length cap0')) := (b0'.setCell (p := ⟨w.heap.size + 1 + 1, 0, none⟩) (by simp; try omega) _)
  refine (toPlanPointS_any ao1 cap1 x.2 _ s1 (p1.later b1)).mono ?_
  rintro e w1 ⟨ao1', cap1', rfl, q1, g1⟩
  have b1' := b1.trans (g1.mono b1.size)
  obtain ⟨hc1, hf1⟩ := bcell g1
  have z1 := g1.size
  try simp at z1 hc1 hf1
  have y10 : w.heap.size < w1.heap.size := by omega
  have y11 : w.heap.size + 1 < w1.heap.size := by omega
  have y12 : w.heap.size + 1 + 1 < w1.heap.size := by omega
  go_wp2
  refine bodyPost_ret (v := .agg #[.slice ao0' x.1.length cap0', .slice ao1' x.2.length cap1']) (by simp [results, Try.results10, go_sem, hc0, hf0, y00, y01, y02, hc1, hf1, y10, y11, y12]) rfl ⟨ao0', cap0', ao1', cap1', rfl, ?_, ?_, ?_⟩
  · refine SliceAt.mono (q0.stays ?_) ?_
    · intro b hb
      have hb1 := hb.1
      have hb2 := hb.2
      simp at hb1 hb2
      have hne1 : b ≠ w.heap.size + 1 := by omega
      have hne2 : b ≠ w.heap.size + 1 + 1 := by omega
      have hl1 : b < w0.heap.size := by omega
      have hk1 := g1.block b (by simpa using hl1)
      simp [Below.heap_setCell, hne1, hne2, hk1]
    · intro b hb
      have hb1 := hb.1
      have hb2 := hb.2
      simp at hb1 hb2
      exact ⟨by omega, by simp; omega⟩
  · refine SliceAt.mono (q1.stays ?_) ?_
    · intro b hb
      have hb1 := hb.1
      have hb2 := hb.2
      simp at hb1 hb2
      have hne1 : b ≠ w.heap.size + 1 := by omega
      have hne2 : b ≠ w.heap.size + 1 + 1 := by omega
      simp [Below.heap_setCell, hne1, hne2]
    · intro b hb
      have hb1 := hb.1
      have hb2 := hb.2
      simp at hb1 hb2
      exact ⟨by omega, by simp; omega⟩
  · repeat (first | refine Below.setCell ?_ (by simp; try omega) _ | exact b1')

set_option maxHeartbeats 400000 in
theorem eqPlanBase_any (x : DPlanBase) (ao0 : Option Addr) (cap0 : Nat) (ao1 : Option Addr) (cap1 : Nat) (ao0' : Option Addr) (cap0' : Nat) (ao1' : Option Addr) (cap1' : Nat) (w : World) (p0 : SliceAt vPlanKind (old w) w ao0 cap0 x.1) (p0' : SliceAt vPlanKind (old w) w ao0' cap0' x.1) (p1 : SliceAt vPlanPoint (old w) w ao1 cap1 x.2) (p1' : SliceAt vPlanPoint (old w) w ao1' cap1' x.2) (hn : wPlanBase x ≤ 1048576) :
    Calls Try.prog 12 #[.agg #[.slice ao0 x.1.length cap0, .slice ao1 x.2.length cap1], .agg #[.slice ao0' x.1.length cap0', .slice ao1' x.2.length cap1']] w fun e w' => e = .returned (.bool true) ∧ Below w.heap.size w w' := by
  have s0 : wPlanKindS x.1 ≤ 1048576 := by unfold wPlanBase at hn; omega
  have s1 : wPlanPointS x.2 ≤ 1048576 := by unfold wPlanBase at hn; omega
  clear hn
  go_enter Try.func12, Try.ntmps12
  go_wp2_with fail
  have b0 : Below w.heap.size w _ := ((Below.refl w.heap.size w).alloc (Nat.le_refl _) (.cells #[.slice ao0 x.1.length cap0, .slice ao1 x.2.length cap1] 31)).alloc (by simp) (.cells #[.slice ao0' x.1.length cap0', .slice ao1' x.2.length cap1'] 31)
  refine (eqPlanKindS_any ao0 ao0' cap0 cap0' x.1 _ s0 (p0.later b0) (p0'.later b0)).mono ?_
  rintro e w0 ⟨rfl, g0⟩
  have b0' := b0.trans (g0.mono b0.size)
  obtain ⟨hc0, hf0⟩ := bcell g0
  have z0 := g0.size
  try simp at z0 hc0 hf0
  have y00 : w.heap.size < w0.heap.size := by omega
  have y01 : w.heap.size + 1 < w0.heap.size := by omega
  go_wp2_with fail
  have b1 := b0'
  refine (eqPlanPointS_any ao1 ao1' cap1 cap1' x.2 _ s1 (p1.later b1) (p1'.later b1)).mono ?_
  rintro e w1 ⟨rfl, g1⟩
  have b1' := b1.trans (g1.mono b1.size)
  obtain ⟨hc1, hf1⟩ := bcell g1
  have z1 := g1.size
  try simp at z1 hc1 hf1
  have y10 : w.heap.size < w1.heap.size := by omega
  have y11 : w.heap.size + 1 < w1.heap.size := by omega
  go_wp2
  go_ret
  exact ⟨rfl, b1'⟩

end Go.Proofs.Ytohgkiljdehefaa
