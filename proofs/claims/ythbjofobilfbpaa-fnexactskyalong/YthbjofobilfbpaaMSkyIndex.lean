/- DERIVED. By gm.py: the shape of SkyIndex; 'to' ends in it; 'mark' over it. -/
import Derived.Test.YthbjofobilfbpaaMk1
import Derived.Test.YthbjofobilfbpaaVSkyIndex
import Derived.Test.YthbjofobilfbpaaMSkyRow
import Derived.Test.YthbjofobilfbpaaMSkyHop
namespace Go.Proofs.Ythbjofobilfbpaa
open Go.RowKit
set_option linter.unusedSimpArgs false
set_option linter.unusedVariables false

def shSkyIndex : Shape := shPair (shSlice shSkyRow 50) (shSlice shSkyHop 60)
theorem shSkyIndex_size : shSkyIndex.size = 2 := rfl
def cnSkyIndex (x : DSkyIndex) : Nat := cnSkyRowS x.1 + (cnSkyHopS x.2)
def cnSkyIndexS (l : List DSkyIndex) : Nat := (l.map cnSkyIndex).sum
theorem cnSkyIndexS_le (l : List DSkyIndex) : cnSkyIndexS l ≤ 16 * wSkyIndexS l := by
  unfold cnSkyIndexS wSkyIndexS
  refine cnt_sum cnSkyIndex wSkyIndex (fun x => ?_) l
  unfold cnSkyIndex wSkyIndex
  have h0 := cnSkyRowS_le x.1
  have h1 := cnSkyHopS_le x.2
  omega

theorem hold_SkyIndex {ok : Nat → Prop} {w : World} {x : DSkyIndex} {ao0 : Option Addr} {cap0 : Nat} {ao1 : Option Addr} {cap1 : Nat} (q0 : SlSh shSkyRow 50 ok w ao0 x.1.length (cnSkyRowS x.1)) (q1 : SlSh shSkyHop 60 ok w ao1 x.2.length (cnSkyHopS x.2)) : shSkyIndex.holds ok w [.slice ao0 x.1.length cap0, .slice ao1 x.2.length cap1] (cnSkyIndex x) :=
  ⟨[_], _, _, _, rfl, rfl, ⟨_, _, _, rfl, q0⟩, ⟨_, _, _, rfl, q1⟩⟩

theorem elemSh_SkyIndex {t : TypeId} {ok : Nat → Prop} {w : World} {b n : Nat} {f : Nat → Nat} (h : RowSh shSkyIndex t ok w b n f) {i : Nat} (hi : i < n) :
    ∃ (ao0 : Option Addr) (n0 cap0 c0 : Nat) (ao1 : Option Addr) (n1 cap1 c1 : Nat), f i = c0 + c1 ∧ w.cell? ⟨b, i * 2, none⟩ = some (.slice ao0 n0 cap0) ∧ w.frozen? ⟨b, i * 2, none⟩ = false ∧ SlSh shSkyRow 50 ok w ao0 n0 c0 ∧ w.cell? ⟨b, i * 2 + 1, none⟩ = some (.slice ao1 n1 cap1) ∧ w.frozen? ⟨b, i * 2 + 1, none⟩ = false ∧ SlSh shSkyHop 60 ok w ao1 n1 c1 := by
  obtain ⟨cs, h1, h2⟩ := h.elem hi
  obtain ⟨_, _, n0x, n0y, rfl, e0, ⟨ao0, n0, cap0, rfl, q0⟩, ⟨ao1, n1, cap1, rfl, q1⟩⟩ := h1
  refine ⟨ao0, n0, cap0, _, ao1, n1, cap1, _, by omega, (h2 0 (by decide)).1, (h2 0 (by decide)).2, q0, (h2 1 (by decide)).1, (h2 1 (by decide)).2, q1⟩

set_option maxHeartbeats 1000000 in
theorem toSkyIndex_sh (x : DSkyIndex) (ao0 : Option Addr) (cap0 : Nat) (ao1 : Option Addr) (cap1 : Nat) (w : World) (p0 : SliceAt vSkyRow (old w) w ao0 cap0 x.1) (p1 : SliceAt vSkyHop (old w) w ao1 cap1 x.2) (hn : wSkyIndex x ≤ 1048576) :
    Calls Try.prog 7 #[.agg #[.slice ao0 x.1.length cap0, .slice ao1 x.2.length cap1]] w fun e w' => ∃ ao0' cap0', ∃ ao1' cap1', e = .returned (.agg #[.slice ao0' x.1.length cap0', .slice ao1' x.2.length cap1']) ∧ (SliceAt vSkyRow (fresh w w') w' ao0' cap0' x.1 ∧ SlSh shSkyRow 50 (fresh w w') w' ao0' x.1.length (cnSkyRowS x.1)) ∧ (SliceAt vSkyHop (fresh w w') w' ao1' cap1' x.2 ∧ SlSh shSkyHop 60 (fresh w w') w' ao1' x.2.length (cnSkyHopS x.2)) ∧ Below w.heap.size w w' := by
  have s0 : wSkyRowS x.1 ≤ 1048576 := by unfold wSkyIndex at hn; omega
  have s1 : wSkyHopS x.2 ≤ 1048576 := by unfold wSkyIndex at hn; omega
  clear hn
  go_enter Try.func7, Try.ntmps7
  go_wp2_with fail
  have b0 : Below w.heap.size w (((w.alloc (.cells #[.slice ao0 x.1.length cap0, .slice ao1 x.2.length cap1] 25)).alloc (.cells #[.slice none 0 0, .slice none 0 0] 34)).alloc (.cells #[.slice none 0 0, .slice none 0 0] 34)) := (((Below.refl w.heap.size w).alloc (Nat.le_refl _) _).alloc (by simp) _).alloc (by simp; try omega) _
  refine (toSkyRowS_sh ao0 cap0 x.1 _ s0 (p0.later b0)).mono ?_
  rintro e w0 ⟨ao0', cap0', rfl, q0, r0, g0⟩
  have b0' := b0.trans (g0.mono b0.size)
  obtain ⟨hc0, hf0⟩ := bcell g0
  have z0 := g0.size
  try simp at z0 hc0 hf0
  have y00 : w.heap.size < w0.heap.size := by omega
  have y01 : w.heap.size + 1 < w0.heap.size := by omega
  have y02 : w.heap.size + 1 + 1 < w0.heap.size := by omega
  go_wp2_with fail
  have b1 : Below w.heap.size w (w0.setCell ⟨w.heap.size + 1 + 1, 0, none⟩ (.slice ao0' x.1.length cap0')) := (b0'.setCell (p := ⟨w.heap.size + 1 + 1, 0, none⟩) (by simp; try omega) _)
  refine (toSkyHopS_sh ao1 cap1 x.2 _ s1 (p1.later b1)).mono ?_
  rintro e w1 ⟨ao1', cap1', rfl, q1, r1, g1⟩
  have b1' := b1.trans (g1.mono b1.size)
  obtain ⟨hc1, hf1⟩ := bcell g1
  have z1 := g1.size
  try simp at z1 hc1 hf1
  have y10 : w.heap.size < w1.heap.size := by omega
  have y11 : w.heap.size + 1 < w1.heap.size := by omega
  have y12 : w.heap.size + 1 + 1 < w1.heap.size := by omega
  go_wp2
  refine bodyPost_ret (v := .agg #[.slice ao0' x.1.length cap0', .slice ao1' x.2.length cap1']) (by simp [results, Try.results7, go_sem, hc0, hf0, y00, y01, y02, hc1, hf1, y10, y11, y12]) rfl ⟨ao0', cap0', ao1', cap1', rfl, ?_, ?_, ?_⟩
  · refine ⟨SliceAt.mono (q0.stays ?_) ?_, SlSh.mono (r0.stays ?_) ?_⟩
    · intro b hb
      have hb1 := hb.1
      have hb2 := hb.2
      simp at hb1 hb2
      have hne1 : b ≠ w.heap.size + 1 := by omega
      have hne2 : b ≠ w.heap.size + 1 + 1 := by omega
      have hl1 : b < w0.heap.size := by omega
      have hk1 := g1.block b (by simpa using hl1)
      simp [Below.heap_setCell, hne1, hne2, hk1]
    · intro b hb
      have hb1 := hb.1
      have hb2 := hb.2
      simp at hb1 hb2
      exact ⟨by omega, by simp; omega⟩
    · intro b hb
      have hb1 := hb.1
      have hb2 := hb.2
      simp at hb1 hb2
      have hne1 : b ≠ w.heap.size + 1 := by omega
      have hne2 : b ≠ w.heap.size + 1 + 1 := by omega
      have hl1 : b < w0.heap.size := by omega
      have hk1 := g1.block b (by simpa using hl1)
      simp [Below.heap_setCell, hne1, hne2, hk1]
    · intro b hb
      have hb1 := hb.1
      have hb2 := hb.2
      simp at hb1 hb2
      exact ⟨by omega, by simp; omega⟩
  · refine ⟨SliceAt.mono (q1.stays ?_) ?_, SlSh.mono (r1.stays ?_) ?_⟩
    · intro b hb
      have hb1 := hb.1
      have hb2 := hb.2
      simp at hb1 hb2
      have hne1 : b ≠ w.heap.size + 1 := by omega
      have hne2 : b ≠ w.heap.size + 1 + 1 := by omega
      simp [Below.heap_setCell, hne1, hne2]
    · intro b hb
      have hb1 := hb.1
      have hb2 := hb.2
      simp at hb1 hb2
      exact ⟨by omega, by simp; omega⟩
    · intro b hb
      have hb1 := hb.1
      have hb2 := hb.2
      simp at hb1 hb2
      have hne1 : b ≠ w.heap.size + 1 := by omega
      have hne2 : b ≠ w.heap.size + 1 + 1 := by omega
      simp [Below.heap_setCell, hne1, hne2]
    · intro b hb
      have hb1 := hb.1
      have hb2 := hb.2
      simp at hb1 hb2
      exact ⟨by omega, by simp; omega⟩
  · repeat (first | refine Below.setCell ?_ (by simp; try omega) _ | exact b1')

set_option maxRecDepth 100000 in
set_option maxHeartbeats 1000000 in
theorem markSkyIndex_any (ao0 : Option Addr) (n0 cap0 c0 : Nat) (ao1 : Option Addr) (n1 cap1 c1 : Nat) (k : Int) (lo hi : Nat) (w : World) (q0 : SlSh shSkyRow 50 (fun b => lo ≤ b ∧ b < hi) w ao0 n0 c0) (q1 : SlSh shSkyHop 60 (fun b => lo ≤ b ∧ b < hi) w ao1 n1 c1) (hlo : lo ≤ hi) (hhi : hi ≤ w.heap.size) (hk : 0 ≤ k) (hc : k + (c0 + c1 : Nat) ≤ 1099511627776) :
    Calls Try.prog 14 #[.agg #[.slice ao0 n0 cap0, .slice ao1 n1 cap1], .int .i64 k] w fun e w' => e = .returned (.int .i64 (k + (c0 + c1 : Nat))) ∧ Same lo hi w w' := by
  have hB0 : Below w.heap.size w (w.alloc (.cells #[.slice ao0 n0 cap0, .slice ao1 n1 cap1] 34)) := (Below.refl _ _).alloc (Nat.le_refl _) _
  have hY0 : Same lo hi w (w.alloc (.cells #[.slice ao0 n0 cap0, .slice ao1 n1 cap1] 34)) := Same.ofBelow hB0 (by omega) hhi
  have hs0 : hi < (w.alloc (.cells #[.slice ao0 n0 cap0, .slice ao1 n1 cap1] 34)).heap.size := by simp; omega
  have e0 : (w.alloc (.cells #[.slice ao0 n0 cap0, .slice ao1 n1 cap1] 34)).heap[w.heap.size]? = some (.cells #[.slice ao0 n0 cap0, .slice ao1 n1 cap1] 34 (0, 0)) := heap_alloc_new _ _
  go_enter Try.func14, Try.ntmps14
  have hT0 := q0.turn hY0 (fun _ h => h)
  go_wp2_with fail
  refine (markSkyRowS_any _ _ _ c0 _ lo hi _ hT0 hlo (by omega) (by omega) (by omega)).mono ?_
  rintro e w0 ⟨rfl, g0⟩
  have hY1 := hY0.trans g0
  have x0 := (g0.above w.heap.size hhi (by first | omega | (simp; done))).trans e0
  have hs1 : hi < w0.heap.size := by have := g0.below.size; omega
  have ws0 : w.heap.size < w0.heap.size := by have := g0.below.size; first | omega | (simp at this; omega)
  clear g0 hT0
  have hT1 := q1.turn hY1 (fun _ h => h)
  have d1 : w0.cell? ⟨w.heap.size, 1, none⟩ = some (.slice ao1 n1 cap1) := (cell_of_block x0).trans rfl
  go_wp2_with fail
  refine (markSkyHopS_any _ _ _ c1 _ lo hi _ hT1 hlo (by omega) (by omega) (by omega)).mono ?_
  rintro e w1 ⟨rfl, g1⟩
  have hY2 := hY1.trans g1
  have x1 := (g1.above w.heap.size hhi (by first | omega | (simp; done))).trans x0
  have hs2 : hi < w1.heap.size := by have := g1.below.size; omega
  have ws1 : w.heap.size < w1.heap.size := by have := g1.below.size; first | omega | (simp at this; omega)
  clear g1 hT1 d1
  have HE : Hid (k + (c0 : Int) + (c1 : Int) = k + ((c0 + c1 : Nat) : Int)) := by show _ = _; omega
  go_wp2
  go_ret
  exact ⟨by rw [← HE.out]; rfl, hY2⟩

end Go.Proofs.Ythbjofobilfbpaa
