/- DERIVED. By gv.py: data, view and the laws' own functions over PlanBook. -/
import Derived.Test.YtohgkiljdehefaaGreatRows
import Derived.Test.YtohgkiljdehefaaGreatVw1
import Derived.Test.YtohgkiljdehefaaGreatGVa
import Derived.Test.YtohgkiljdehefaaGreatGVb
namespace Go.Proofs.YtohgkiljdehefaaGreat
open Go.RowKit
set_option linter.unusedSimpArgs false
set_option linter.unusedVariables false

abbrev DPlanBook := DPlanBase × List DPlanEntry
def vPlanBook : View DPlanBook := vPair vPlanBase (vSlice vPlanEntry)
theorem vPlanBook_size : vPlanBook.size = 3 := rfl

theorem cells_PlanBook {ok : Nat → Prop} {w : World} {c : List Value} {x : DPlanBook} (h : vPlanBook.rel ok w c x) :
    ∃ ao0 cap0, ∃ ao1 cap1, ∃ ao2 cap2, c = [.slice ao0 x.1.1.length cap0, .slice ao1 x.1.2.length cap1, .slice ao2 x.2.length cap2] ∧ SliceAt vPlanKind ok w ao0 cap0 x.1.1 ∧ SliceAt vPlanPoint ok w ao1 cap1 x.1.2 ∧ SliceAt vPlanEntry ok w ao2 cap2 x.2 := by
  obtain ⟨c0, r0, rfl, t0, ao2, cap2, rfl, p2⟩ := h
  obtain ⟨ao0, cap0, ao1, cap1, rfl, p0, p1⟩ := cells_PlanBase t0
  exact ⟨ao0, cap0, ao1, cap1, ao2, cap2, rfl, p0, p1, p2⟩

theorem mk_PlanBook {ok : Nat → Prop} {w : World} {x : DPlanBook} {ao0 : Option Addr} {cap0 : Nat} {ao1 : Option Addr} {cap1 : Nat} {ao2 : Option Addr} {cap2 : Nat} (p0 : SliceAt vPlanKind ok w ao0 cap0 x.1.1) (p1 : SliceAt vPlanPoint ok w ao1 cap1 x.1.2) (p2 : SliceAt vPlanEntry ok w ao2 cap2 x.2) : vPlanBook.rel ok w [.slice ao0 x.1.1.length cap0, .slice ao1 x.1.2.length cap1, .slice ao2 x.2.length cap2] x :=
  ⟨[_, _], _, rfl, mk_PlanBase p0 p1, _, _, rfl, p2⟩

theorem elem_PlanBook {ok : Nat → Prop} {w : World} {ao : Option Addr} {cap : Nat} {l : List DPlanBook} (h : SliceAt vPlanBook ok w ao cap l) {i : Nat} (hi : i < l.length) :
    ∃ b off, ∃ ao0 cap0, ∃ ao1 cap1, ∃ ao2 cap2, ao = some ⟨b, off, none⟩ ∧ ok b ∧ w.cell? ⟨b, off + i * 3, none⟩ = some (.slice ao0 (l[i]'hi).1.1.length cap0) ∧ w.cell? ⟨b, off + i * 3 + 1, none⟩ = some (.slice ao1 (l[i]'hi).1.2.length cap1) ∧ w.cell? ⟨b, off + i * 3 + 2, none⟩ = some (.slice ao2 (l[i]'hi).2.length cap2) ∧ SliceAt vPlanKind ok w ao0 cap0 (l[i]'hi).1.1 ∧ SliceAt vPlanPoint ok w ao1 cap1 (l[i]'hi).1.2 ∧ SliceAt vPlanEntry ok w ao2 cap2 (l[i]'hi).2 := by
  obtain ⟨b, off, c, h1, h2, h3, h4⟩ := h.elem hi
  obtain ⟨ao0, cap0, ao1, cap1, ao2, cap2, rfl, p0, p1, p2⟩ := cells_PlanBook h3
  exact ⟨b, off, ao0, cap0, ao1, cap1, ao2, cap2, h1, h2, h4 0 (by decide), h4 1 (by decide), h4 2 (by decide), p0, p1, p2⟩

def wPlanBook (x : DPlanBook) : Nat := wPlanBase x.1 + wPlanEntryS x.2
def wPlanBookS (l : List DPlanBook) : Nat := l.length + (l.map wPlanBook).sum

set_option maxHeartbeats 400000 in
theorem szPlanBook_any (x : DPlanBook) (ao0 : Option Addr) (cap0 : Nat) (ao1 : Option Addr) (cap1 : Nat) (ao2 : Option Addr) (cap2 : Nat) (L : Int) (w : World) (h0 : 0 ≤ L) (h1 : L ≤ 1048576) (p0 : SliceAt vPlanKind (old w) w ao0 cap0 x.1.1) (p1 : SliceAt vPlanPoint (old w) w ao1 cap1 x.1.2) (p2 : SliceAt vPlanEntry (old w) w ao2 cap2 x.2) :
    Calls Tryz.prog 4 #[.agg #[.slice ao0 x.1.1.length cap0, .slice ao1 x.1.2.length cap1, .slice ao2 x.2.length cap2], .int .i64 L] w fun e w' => e = .returned (.int .i64 (szR L (wPlanBook x))) ∧ Below w.heap.size w w' := by
  go_enter Tryz.func4, Tryz.ntmps4
  go_wp2_with fail
  refine (szPlanBase_any x.1 ao0 cap0 ao1 cap1 _ _ (by omega) (by omega) (p0.later (by repeat (first | exact Below.refl _ _ | refine Below.alloc ?_ (by simp; try omega) _))) (p1.later (by repeat (first | exact Below.refl _ _ | refine Below.alloc ?_ (by simp; try omega) _)))).mono ?_
  rintro e w0 ⟨rfl, g0⟩
  have b0 : Below w.heap.size w w0 := Below.trans (by repeat (first | exact Below.refl _ _ | refine Below.alloc ?_ (by simp; try omega) _)) (g0.mono (by first | exact Nat.le_refl _ | (simp; done) | (simp; omega) | exact b0.size))
  obtain ⟨hc0, hf0⟩ := bcell g0
  have z0 := g0.size
  try simp at z0 hc0 hf0
  have y0 : w.heap.size < w0.heap.size := by omega
  by_cases n0 : ((wPlanBase x.1 : Nat) : Int) ≤ L
  · rw [szR_yes n0]
    go_wp2_with fail
    refine (szPlanEntryS_any _ _ _ _ _ (by omega) (by omega) (p2.later (b0))).mono ?_
    rintro e w2 ⟨rfl, g2⟩
    have b2 : Below w.heap.size w w2 := Below.trans (b0) (g2.mono (by first | exact Nat.le_refl _ | (simp; done) | (simp; omega) | exact b0.size))
    obtain ⟨hc2, hf2⟩ := bcell g2
    have z2 := g2.size
    try simp at z2 hc2 hf2
    have y2 : w.heap.size < w2.heap.size := by omega
    by_cases n2 : ((wPlanEntryS x.2 : Nat) : Int) ≤ L - (wPlanBase x.1 : Nat)
    · rw [szR_yes n2]
      have HR : Hid (szR L (wPlanBook x) = L - (wPlanBase x.1 : Nat) - (wPlanEntryS x.2 : Nat)) := by
        have h : szR L (wPlanBook x) = L - (wPlanBook x : Nat) := szR_yes (by unfold wPlanBook; omega)
        show _ = _
        rw [h]; unfold wPlanBook; omega
      go_wp2
      go_ret
      exact ⟨by rw [HR.out]; rfl, b2⟩
    · rw [szR_no n2]
      have HR : Hid (szR L (wPlanBook x) = -1) := szR_no (by unfold wPlanBook; omega)
      go_wp2
      go_ret
      exact ⟨by rw [HR.out]; rfl, b2⟩
  · rw [szR_no n0]
    have HR : Hid (szR L (wPlanBook x) = -1) := szR_no (by unfold wPlanBook; omega)
    go_wp2
    go_ret
    exact ⟨by rw [HR.out]; rfl, b0⟩

set_option maxHeartbeats 1000000 in
theorem toPlanBook_any (x : DPlanBook) (ao0 : Option Addr) (cap0 : Nat) (ao1 : Option Addr) (cap1 : Nat) (ao2 : Option Addr) (cap2 : Nat) (w : World) (p0 : SliceAt vPlanKind (old w) w ao0 cap0 x.1.1) (p1 : SliceAt vPlanPoint (old w) w ao1 cap1 x.1.2) (p2 : SliceAt vPlanEntry (old w) w ao2 cap2 x.2) (hn : wPlanBook x ≤ 1048576) :
    Calls Tryz.prog 6 #[.agg #[.slice ao0 x.1.1.length cap0, .slice ao1 x.1.2.length cap1, .slice ao2 x.2.length cap2]] w fun e w' => ∃ ao0' cap0', ∃ ao1' cap1', ∃ ao2' cap2', e = .returned (.agg #[.slice ao0' x.1.1.length cap0', .slice ao1' x.1.2.length cap1', .slice ao2' x.2.length cap2']) ∧ SliceAt vPlanKind (fresh w w') w' ao0' cap0' x.1.1 ∧ SliceAt vPlanPoint (fresh w w') w' ao1' cap1' x.1.2 ∧ SliceAt vPlanEntry (fresh w w') w' ao2' cap2' x.2 ∧ Below w.heap.size w w' := by
  have s0 : wPlanBase x.1 ≤ 1048576 := by unfold wPlanBook at hn; omega
  have s2 : wPlanEntryS x.2 ≤ 1048576 := by unfold wPlanBook at hn; omega
  clear hn
  go_enter Tryz.func6, Tryz.ntmps6
  go_wp2_with fail
  have b0 : Below w.heap.size w (((w.alloc (.cells #[.slice ao0 x.1.1.length cap0, .slice ao1 x.1.2.length cap1, .slice ao2 x.2.length cap2] 28)).alloc (.cells #[.slice none 0 0, .slice none 0 0, .slice none 0 0] 38)).alloc (.cells #[.slice none 0 0, .slice none 0 0, .slice none 0 0] 38)) := (((Below.refl w.heap.size w).alloc (Nat.le_refl _) _).alloc (by simp) _).alloc (by simp; try omega) _
  refine (toPlanBase_any x.1 ao0 cap0 ao1 cap1 _ (p0.later b0) (p1.later b0) s0).mono ?_
  rintro e w0 ⟨ao0', cap0', ao1', cap1', rfl, q0, q1, g0⟩
  have b0' := b0.trans (g0.mono b0.size)
  obtain ⟨hc0, hf0⟩ := bcell g0
  have z0 := g0.size
  try simp at z0 hc0 hf0
  have y00 : w.heap.size < w0.heap.size := by omega
  have y01 : w.heap.size + 1 < w0.heap.size := by omega
  have y02 : w.heap.size + 1 + 1 < w0.heap.size := by omega
  go_wp2_with fail
  have b2 : Below w.heap.size w ((w0.setCell ⟨w.heap.size + 1 + 1, 0, none⟩ (.slice ao0' x.1.1.length cap0')).setCell ⟨w.heap.size + 1 + 1, 1, none⟩ (.slice ao1' x.1.2.length cap1')) := ((b0'.setCell (p := ⟨w.heap.size + 1 + 1, 0, none⟩) (by simp; try omega) _).setCell (p := ⟨w.heap.size + 1 + 1, 1, none⟩) (by simp; try omega) _)
  refine (toPlanEntryS_any ao2 cap2 x.2 _ s2 (p2.later b2)).mono ?_
  rintro e w2 ⟨ao2', cap2', rfl, q2, g2⟩
  have b2' := b2.trans (g2.mono b2.size)
  obtain ⟨hc2, hf2⟩ := bcell g2
  have z2 := g2.size
  try simp at z2 hc2 hf2
  have y20 : w.heap.size < w2.heap.size := by omega
  have y21 : w.heap.size + 1 < w2.heap.size := by omega
  have y22 : w.heap.size + 1 + 1 < w2.heap.size := by omega
  go_wp2
  refine bodyPost_ret (v := .agg #[.slice ao0' x.1.1.length cap0', .slice ao1' x.1.2.length cap1', .slice ao2' x.2.length cap2']) (by simp [results, Tryz.results6, go_sem, hc0, hf0, y00, y01, y02, hc2, hf2, y20, y21, y22]) rfl ⟨ao0', cap0', ao1', cap1', ao2', cap2', rfl, ?_, ?_, ?_, ?_⟩
  · refine SliceAt.mono (q0.stays ?_) ?_
    · intro b hb
      have hb1 := hb.1
      have hb2 := hb.2
      simp at hb1 hb2
      have hne1 : b ≠ w.heap.size + 1 := by omega
      have hne2 : b ≠ w.heap.size + 1 + 1 := by omega
      have hl2 : b < w0.heap.size := by omega
      have hk2 := g2.block b (by simpa using hl2)
      simp [Below.heap_setCell, hne1, hne2, hk2]
    · intro b hb
      have hb1 := hb.1
      have hb2 := hb.2
      simp at hb1 hb2
      exact ⟨by omega, by simp; omega⟩
  · refine SliceAt.mono (q1.stays ?_) ?_
    · intro b hb
      have hb1 := hb.1
      have hb2 := hb.2
      simp at hb1 hb2
      have hne1 : b ≠ w.heap.size + 1 := by omega
      have hne2 : b ≠ w.heap.size + 1 + 1 := by omega
      have hl2 : b < w0.heap.size := by omega
      have hk2 := g2.block b (by simpa using hl2)
      simp [Below.heap_setCell, hne1, hne2, hk2]
    · intro b hb
      have hb1 := hb.1
      have hb2 := hb.2
      simp at hb1 hb2
      exact ⟨by omega, by simp; omega⟩
  · refine SliceAt.mono (q2.stays ?_) ?_
    · intro b hb
      have hb1 := hb.1
      have hb2 := hb.2
      simp at hb1 hb2
      have hne1 : b ≠ w.heap.size + 1 := by omega
      have hne2 : b ≠ w.heap.size + 1 + 1 := by omega
      simp [Below.heap_setCell, hne1, hne2]
    · intro b hb
      have hb1 := hb.1
      have hb2 := hb.2
      simp at hb1 hb2
      exact ⟨by omega, by simp; omega⟩
  · repeat (first | refine Below.setCell ?_ (by simp; try omega) _ | exact b2')

set_option maxHeartbeats 400000 in
theorem eqPlanBook_any (x : DPlanBook) (ao0 : Option Addr) (cap0 : Nat) (ao1 : Option Addr) (cap1 : Nat) (ao2 : Option Addr) (cap2 : Nat) (ao0' : Option Addr) (cap0' : Nat) (ao1' : Option Addr) (cap1' : Nat) (ao2' : Option Addr) (cap2' : Nat) (w : World) (p0 : SliceAt vPlanKind (old w) w ao0 cap0 x.1.1) (p0' : SliceAt vPlanKind (old w) w ao0' cap0' x.1.1) (p1 : SliceAt vPlanPoint (old w) w ao1 cap1 x.1.2) (p1' : SliceAt vPlanPoint (old w) w ao1' cap1' x.1.2) (p2 : SliceAt vPlanEntry (old w) w ao2 cap2 x.2) (p2' : SliceAt vPlanEntry (old w) w ao2' cap2' x.2) (hn : wPlanBook x ≤ 1048576) :
    Calls Tryz.prog 9 #[.agg #[.slice ao0 x.1.1.length cap0, .slice ao1 x.1.2.length cap1, .slice ao2 x.2.length cap2], .agg #[.slice ao0' x.1.1.length cap0', .slice ao1' x.1.2.length cap1', .slice ao2' x.2.length cap2']] w fun e w' => e = .returned (.bool true) ∧ Below w.heap.size w w' := by
  have s0 : wPlanBase x.1 ≤ 1048576 := by unfold wPlanBook at hn; omega
  have s2 : wPlanEntryS x.2 ≤ 1048576 := by unfold wPlanBook at hn; omega
  clear hn
  go_enter Tryz.func9, Tryz.ntmps9
  go_wp2_with fail
  have b0 : Below w.heap.size w _ := ((Below.refl w.heap.size w).alloc (Nat.le_refl _) (.cells #[.slice ao0 x.1.1.length cap0, .slice ao1 x.1.2.length cap1, .slice ao2 x.2.length cap2] 38)).alloc (by simp) (.cells #[.slice ao0' x.1.1.length cap0', .slice ao1' x.1.2.length cap1', .slice ao2' x.2.length cap2'] 38)
  refine (eqPlanBase_any x.1 ao0 cap0 ao1 cap1 ao0' cap0' ao1' cap1' _ (p0.later b0) (p0'.later b0) (p1.later b0) (p1'.later b0) s0).mono ?_
  rintro e w0 ⟨rfl, g0⟩
  have b0' := b0.trans (g0.mono b0.size)
  obtain ⟨hc0, hf0⟩ := bcell g0
  have z0 := g0.size
  try simp at z0 hc0 hf0
  have y00 : w.heap.size < w0.heap.size := by omega
  have y01 : w.heap.size + 1 < w0.heap.size := by omega
  go_wp2_with fail
  have b2 := b0'
  refine (eqPlanEntryS_any ao2 ao2' cap2 cap2' x.2 _ s2 (p2.later b2) (p2'.later b2)).mono ?_
  rintro e w2 ⟨rfl, g2⟩
  have b2' := b2.trans (g2.mono b2.size)
  obtain ⟨hc2, hf2⟩ := bcell g2
  have z2 := g2.size
  try simp at z2 hc2 hf2
  have y20 : w.heap.size < w2.heap.size := by omega
  have y21 : w.heap.size + 1 < w2.heap.size := by omega
  go_wp2
  go_ret
  exact ⟨rfl, b2'⟩

end Go.Proofs.YtohgkiljdehefaaGreat
