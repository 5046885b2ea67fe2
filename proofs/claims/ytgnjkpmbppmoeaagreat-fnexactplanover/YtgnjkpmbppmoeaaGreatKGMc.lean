/- DERIVED. By gm.py: the shape of PlanEntry; 'to' ends in it; 'mark' over it. -/
import Derived.Test.YtgnjkpmbppmoeaaGreatKGMa
import Derived.Test.YtgnjkpmbppmoeaaGreatKGVb
import Derived.Test.YtgnjkpmbppmoeaaGreatKGMb
import Derived.Test.YtgnjkpmbppmoeaaGreatKGVa
namespace Go.Proofs.YtgnjkpmbppmoeaaGreat
open Go.RowKit
set_option linter.unusedSimpArgs false
set_option linter.unusedVariables false

def shPlanEntry : Shape := shPair shFlat (shSlice shPlanField 120)
theorem shPlanEntry_size : shPlanEntry.size = 2 := rfl
def cnPlanEntry (x : DPlanEntry) : Nat := 1 + (cnPlanFieldS x.2)
def cnPlanEntryS (l : List DPlanEntry) : Nat := (l.map cnPlanEntry).sum
theorem cnPlanEntryS_le (l : List DPlanEntry) : cnPlanEntryS l ≤ 16 * wPlanEntryS l := by
  unfold cnPlanEntryS wPlanEntryS
  refine cnt_sum cnPlanEntry wPlanEntry (fun x => ?_) l
  unfold cnPlanEntry wPlanEntry
  have h1 := cnPlanFieldS_le x.2
  omega

theorem hold_PlanEntry {ok : Nat → Prop} {w : World} {x : DPlanEntry} {ao1 : Option Addr} {cap1 : Nat} (q1 : SlSh shPlanField 120 ok w ao1 x.2.length (cnPlanFieldS x.2)) : shPlanEntry.holds ok w [.string x.1, .slice ao1 x.2.length cap1] (cnPlanEntry x) :=
  ⟨[_], _, _, _, rfl, rfl, ⟨_, rfl, rfl, rfl⟩, ⟨_, _, _, rfl, q1⟩⟩

theorem elemSh_PlanEntry {t : TypeId} {ok : Nat → Prop} {w : World} {b n : Nat} {f : Nat → Nat} (h : RowSh shPlanEntry t ok w b n f) {i : Nat} (hi : i < n) :
    ∃ (v0 : Value) (ao1 : Option Addr) (n1 cap1 c1 : Nat), f i = 1 + c1 ∧ w.cell? ⟨b, i * 2, none⟩ = some v0 ∧ w.frozen? ⟨b, i * 2, none⟩ = false ∧ isSl v0 = false ∧ w.cell? ⟨b, i * 2 + 1, none⟩ = some (.slice ao1 n1 cap1) ∧ w.frozen? ⟨b, i * 2 + 1, none⟩ = false ∧ SlSh shPlanField 120 ok w ao1 n1 c1 := by
  obtain ⟨cs, h1, h2⟩ := h.elem hi
  obtain ⟨_, _, n0x, n0y, rfl, e0, ⟨v0, rfl, q0, m0⟩, ⟨ao1, n1, cap1, rfl, q1⟩⟩ := h1
  refine ⟨v0, ao1, n1, cap1, _, by omega, (h2 0 (by decide)).1, (h2 0 (by decide)).2, q0, (h2 1 (by decide)).1, (h2 1 (by decide)).2, q1⟩

set_option maxHeartbeats 1000000 in
theorem toPlanEntry_sh (x : DPlanEntry) (ao1 : Option Addr) (cap1 : Nat) (w : World) (p1 : SliceAt vPlanField (old w) w ao1 cap1 x.2) (hn : wPlanEntry x ≤ 1048576) :
    Calls Tryz.prog 64 #[.agg #[.string x.1, .slice ao1 x.2.length cap1]] w fun e w' => ∃ ao1' cap1', e = .returned (.agg #[.string x.1, .slice ao1' x.2.length cap1']) ∧ (SliceAt vPlanField (fresh w w') w' ao1' cap1' x.2 ∧ SlSh shPlanField 120 (fresh w w') w' ao1' x.2.length (cnPlanFieldS x.2)) ∧ Below w.heap.size w w' := by
  have s1 : wPlanFieldS x.2 ≤ 1048576 := by unfold wPlanEntry at hn; omega
  clear hn
  go_enter Tryz.func64, Tryz.ntmps64
  go_wp2_with fail
  have b1 : Below w.heap.size w (((w.alloc (.cells #[.string x.1, .slice ao1 x.2.length cap1] 105)).alloc (.cells #[.string ByteArray.empty, .slice none 0 0] 67)).alloc (.cells #[.string x.1, .slice none 0 0] 67)) := (((Below.refl w.heap.size w).alloc (Nat.le_refl _) _).alloc (by simp) _).alloc (by simp; try omega) _
  refine (toPlanFieldS_sh ao1 cap1 x.2 _ s1 (p1.later b1)).mono ?_
  rintro e w1 ⟨ao1', cap1', rfl, q1, r1, g1⟩
  have b1' := b1.trans (g1.mono b1.size)
  obtain ⟨hc1, hf1⟩ := bcell g1
  have z1 := g1.size
  try simp at z1 hc1 hf1
  have y10 : w.heap.size < w1.heap.size := by omega
  have y11 : w.heap.size + 1 < w1.heap.size := by omega
  have y12 : w.heap.size + 1 + 1 < w1.heap.size := by omega
  go_wp2
  refine bodyPost_ret (v := .agg #[.string x.1, .slice ao1' x.2.length cap1']) (by simp [results, Tryz.results64, go_sem, hc1, hf1, y10, y11, y12]) rfl ⟨ao1', cap1', rfl, ?_, ?_⟩
  · refine ⟨SliceAt.mono (q1.stays ?_) ?_, SlSh.mono (r1.stays ?_) ?_⟩
    · intro b hb
      have hb1 := hb.1
      have hb2 := hb.2
      simp at hb1 hb2
      have hne1 : b ≠ w.heap.size + 1 := by omega
      have hne2 : b ≠ w.heap.size + 1 + 1 := by omega
      simp [Below.heap_setCell, hne1, hne2]
    · intro b hb
      have hb1 := hb.1
      have hb2 := hb.2
      simp at hb1 hb2
      exact ⟨by omega, by simp; omega⟩
    · intro b hb
      have hb1 := hb.1
      have hb2 := hb.2
      simp at hb1 hb2
      have hne1 : b ≠ w.heap.size + 1 := by omega
      have hne2 : b ≠ w.heap.size + 1 + 1 := by omega
      simp [Below.heap_setCell, hne1, hne2]
    · intro b hb
      have hb1 := hb.1
      have hb2 := hb.2
      simp at hb1 hb2
      exact ⟨by omega, by simp; omega⟩
  · repeat (first | refine Below.setCell ?_ (by simp; try omega) _ | exact b1')

theorem vwPlanEntry_size : (vWith vPlanEntry shPlanEntry cnPlanEntry).size = 2 := rfl

set_option maxHeartbeats 1000000 in
theorem toPlanEntryS_sh (ao : Option Addr) (cap : Nat) (l : List DPlanEntry) (w : World) (hn : wPlanEntryS l ≤ 1048576) (h : SliceAt vPlanEntry (old w) w ao cap l) :
    Calls Tryz.prog 28 #[.slice ao l.length cap] w fun e w' => ∃ ao' cap', e = .returned (.slice ao' l.length cap') ∧ SliceAt vPlanEntry (fresh w w') w' ao' cap' l ∧ SlSh shPlanEntry 67 (fresh w w') w' ao' l.length (cnPlanEntryS l) ∧ Below w.heap.size w w' := by
  have hl : l.length ≤ 1048576 := by unfold wPlanEntryS at hn; omega
  obtain ⟨i0, hi, hz0, hz1, hz2⟩ := info_parts Tryz.info_PlanEntry
  go_enter Tryz.func28, Tryz.ntmps28
  go_wp2_with (at_make; refine wpList_make_full _ rfl _ _ 41 rfl w.heap.size 67 i0 _ 2 Tryz.underlying41 hi hz0 hz1 _ _ _ _ l.length rfl rfl rfl rfl ?c1 ?c2 ?c3 ?_)
  case c1 => rw [hz2]; omega
  case c2 => unfold maxLen; omega
  case c3 => exact Nat.le_refl _
  intro w1 hown hgr
  have hR0 : RowAt (vWith vPlanEntry shPlanEntry cnPlanEntry) w1 w.heap.size 67 0 l := RowAt.start (A := vWith vPlanEntry shPlanEntry cnPlanEntry) rfl hown
  have hB0 : Below w.heap.size w w1 := (Below.refl _ _).grown hgr (Nat.le_refl _) (by intro k hk; cases hk)
  clear hown hgr hi hz0 hz1 hz2
  go_wp2
  go_loopw [4] (fun i wr => ∃ k : Nat, k ≤ l.length ∧ i = .int .i64 k ∧ Below w.heap.size w wr ∧ RowAt (vWith vPlanEntry shPlanEntry cnPlanEntry) wr w.heap.size 67 k l) (fun i _ => l.length - (intOf i).toNat)
  case atStart => exact ⟨0, Nat.zero_le _, rfl, hB0, hR0⟩
  case round =>
    obtain ⟨k, hk, rfl, hbel, hR⟩ := hrel
    by_cases hlt : k < l.length
    · obtain ⟨b, off, ao1, cap1, rfl, hok, c0, c1, p0, p1⟩ := elem_PlanEntry h hlt
      have d0 := (hbel.cell (p := ⟨b, off + k * 2, none⟩) hok).trans c0
      have d1 := (hbel.cell (p := ⟨b, off + k * 2 + 1, none⟩) hok).trans c1
      have t : wPlanEntry l[k] ≤ 1048576 := by have h1 := sum_elem wPlanEntry l k hlt; unfold wPlanEntryS at hn; omega
      clear c0 c1 hR0 hB0
      go_wp2_with fail
      refine (toPlanEntry_sh _ _ _ _ (p1.later hbel) t).mono ?_
      rintro e w2 ⟨ao1', cap1', rfl, ⟨q1, r1⟩, hb2⟩
      have hR2 := hR.later hb2
      have hB2 := hbel.trans (hb2.mono hbel.size)
      have hR3 := hR2.store hlt (c := [.string l[k].1, .slice ao1' l[k].2.length cap1']) ⟨mk_PlanEntry p0 (q1.mono (fun b hb => ⟨Nat.lt_of_lt_of_le hR.lt hb.1, hb.2⟩)), hold_PlanEntry (r1.mono (fun b hb => ⟨Nat.lt_of_lt_of_le hR.lt hb.1, hb.2⟩))⟩
      have hB3 := put_below w.heap.size w.heap.size (Nat.le_refl _) [.string l[k].1, .slice ao1' l[k].2.length cap1'] _ _ (k * 2) hB2
      obtain ⟨u0, e0⟩ := hR2.cell (i := k * 2) (by rw [vwPlanEntry_size]; omega)
      obtain ⟨u1, e1⟩ := hR2.cell (i := k * 2 + 1) (by rw [vwPlanEntry_size]; omega)
      have f0 := hR2.free (k * 2)
      have f1 := hR2.free (k * 2 + 1)
      clear hR hR2 hB2 hb2
      go_wp2
      go_roundw
      case rel => exact ⟨k + 1, by omega, by go_num, hB3, hR3⟩
      case measure => simp [intOf]; omega
    · have hk2 : k = l.length := by omega
      subst hk2
      have hS := (hR.done (by unfold maxLen; omega)).bare
      have hSh := hR.shape (by unfold maxLen; omega) rfl
      go_wp2
      go_ret
      exact ⟨_, _, rfl, hS, hSh, hbel⟩

set_option maxRecDepth 100000 in
set_option maxHeartbeats 2000000 in
theorem markPlanEntryS_any (ao : Option Addr) (n cap c : Nat) (k : Int) (lo hi : Nat) (w : World) (h : SlSh shPlanEntry 67 (fun b => lo ≤ b ∧ b < hi) w ao n c) (hlo : lo ≤ hi) (hhi : hi ≤ w.heap.size) (hk : 0 ≤ k) (hc : k + c ≤ 1099511627776) :
    Calls Tryz.prog 36 #[.slice ao n cap, .int .i64 k] w fun e w' => e = .returned (.int .i64 (k + c)) ∧ Same lo hi w w' := by
  have hm : n ≤ 9223372036854775807 := h.1
  rcases h.2 with ⟨rfl, rfl⟩ | ⟨b, f, rfl, hcf, hR⟩
  · go_enter Tryz.func36, Tryz.ntmps36
    go_wp2
    go_loop [1, 5] (fun a i => a = .int .i64 k ∧ i = .int .i64 0) (fun _ _ => 0)
    case atStart => exact ⟨rfl, rfl⟩
    case round =>
      obtain ⟨rfl, rfl⟩ := hrel
      go_wp2
      go_ret
      exact ⟨by simp, Same.refl _ _ _⟩
  · have hb1 := hR.1.1
    have hb2 := hR.1.2
    have HF : Hid (c = sumTo f n) := hcf
    clear hcf h
    go_enter Tryz.func36, Tryz.ntmps36
    go_wp2
    go_loopw [1, 5] (fun a i wr => ∃ (j : Nat) (q : Int), j ≤ n ∧ i = .int .i64 j ∧ a = .int .i64 q ∧ Hid (q = k + sumTo f j) ∧ Same lo hi w wr) (fun _ i _ => n - (intOf i).toNat)
    case atStart => exact ⟨0, k, Nat.zero_le _, rfl, rfl, by show _ = _; simp [sumTo], Same.refl _ _ _⟩
    case round =>
      obtain ⟨j, q, hj, rfl, rfl, hq, hS⟩ := hrel
      by_cases hlt : j < n
      · have hs1 : sumTo f j + f j ≤ sumTo f n := sumTo_le f (m := j + 1) hlt
        have hq0 : 0 ≤ q := by have := hq.out; omega
        have hq1 : q + f j ≤ 1099511627776 := by have h1 := hq.out; have h2 := HF.out; omega
        have HQ : Hid (q + f j = k + sumTo f (j + 1)) := by have h1 := hq.out; show _ = _; simp only [sumTo]; omega
        have hRw := hR.turn hS (fun _ h => h)
        have hsz := hS.below.size
        clear hs1 hq
        obtain ⟨v0, ao1, n1, cap1, c1, hf, d0, f0, z0, d1, f1, s1⟩ := elemSh_PlanEntry hRw hlt
        have HG0 : Hid _ := hf
        clear hf
        have hX1 : Same lo hi w wr := hS
        have hXs1 := hX1.below.size
        clear hRw
        go_wp2_with fail
        refine (markText_ex _ _ (by omega) (by have := HG0.out; omega)).mono ?_
        rintro e w1 ⟨t1, rfl, g1⟩
        have hY1 := hX1.trans (Same.ofBelow (lo := lo) (hi := hi) g1 (by omega) (by omega))
        clear d0 f0 z0 d1 f1 s1 hX1 hXs1 g1 hS
        have hRw := hR.turn hY1 (fun _ h => h)
        have hsz := hY1.below.size
        obtain ⟨v0, ao1, n1, cap1, c1, hf, d0, f0, z0, d1, f1, s1⟩ := elemSh_PlanEntry hRw hlt
        have HG1 : Hid _ := hf
        clear hf
        have hX2 : Same lo hi w (w1.setCell ⟨b, j * 2, none⟩ (.string t1)) := (hY1.set hb1 hb2 d0 z0 rfl)
        have hXs2 := hX2.below.size
        have hT2 : SlSh shPlanField 120 (fun b => lo ≤ b ∧ b < hi) (w1.setCell ⟨b, j * 2, none⟩ (.string t1)) ao1 n1 c1 := s1.turn (lo := lo) (hi := hi) (((Same.refl lo hi _).set hb1 hb2 d0 z0 rfl)) (fun _ h => h)
        clear hRw
        go_wp2_with fail
        refine (markPlanFieldS_any _ _ _ c1 _ lo hi _ hT2 hlo (by omega) (by omega) (by have := HG1.out; omega)).mono ?_
        rintro e w2 ⟨rfl, g2⟩
        have hY2 := hX2.trans g2
        clear hT2
        clear d0 f0 z0 d1 f1 s1 hX2 hXs2 g2 hY1
        have hRw := hR.turn hY2 (fun _ h => h)
        have hsz := hY2.below.size
        obtain ⟨v0, ao1', n1', cap1', c1', hf, d0, f0, z0, d1, f1, s1⟩ := elemSh_PlanEntry hRw hlt
        have HG2 : Hid _ := hf
        clear hf
        have hE : Same lo hi w w2 := hY2
        clear hRw
        go_wp2
        go_roundw
        case rel => exact ⟨j + 1, q + 1 + c1, by omega, by go_num, by go_num, by have := HQ.out; have := HG0.out; have := HG1.out; have := HG2.out; show _ = _; omega, hE⟩
        case measure => simp [intOf]; omega
      · have hje : j = n := by omega
        subst hje
        have HE : Hid (q = k + c) := by have h1 := hq.out; have h2 := HF.out; show _ = _; omega
        clear hq HF
        go_wp2
        go_ret
        exact ⟨by rw [HE.out]; rfl, hS⟩

end Go.Proofs.YtgnjkpmbppmoeaaGreat

/- DERIVED. By gm.py: the shape of PlanBase; 'to' ends in it; 'mark' over it. -/
namespace Go.Proofs.YtgnjkpmbppmoeaaGreat
open Go.RowKit
set_option linter.unusedSimpArgs false
set_option linter.unusedVariables false

def shPlanBase : Shape := shPair (shSlice shPlanKind 31) (shSlice shPlanPoint 93)
theorem shPlanBase_size : shPlanBase.size = 2 := rfl
def cnPlanBase (x : DPlanBase) : Nat := cnPlanKindS x.1 + (cnPlanPointS x.2)
def cnPlanBaseS (l : List DPlanBase) : Nat := (l.map cnPlanBase).sum
theorem cnPlanBaseS_le (l : List DPlanBase) : cnPlanBaseS l ≤ 16 * wPlanBaseS l := by
  unfold cnPlanBaseS wPlanBaseS
  refine cnt_sum cnPlanBase wPlanBase (fun x => ?_) l
  unfold cnPlanBase wPlanBase
  have h0 := cnPlanKindS_le x.1
  have h1 := cnPlanPointS_le x.2
  omega

theorem hold_PlanBase {ok : Nat → Prop} {w : World} {x : DPlanBase} {ao0 : Option Addr} {cap0 : Nat} {ao1 : Option Addr} {cap1 : Nat} (q0 : SlSh shPlanKind 31 ok w ao0 x.1.length (cnPlanKindS x.1)) (q1 : SlSh shPlanPoint 93 ok w ao1 x.2.length (cnPlanPointS x.2)) : shPlanBase.holds ok w [.slice ao0 x.1.length cap0, .slice ao1 x.2.length cap1] (cnPlanBase x) :=
  ⟨[_], _, _, _, rfl, rfl, ⟨_, _, _, rfl, q0⟩, ⟨_, _, _, rfl, q1⟩⟩

theorem elemSh_PlanBase {t : TypeId} {ok : Nat → Prop} {w : World} {b n : Nat} {f : Nat → Nat} (h : RowSh shPlanBase t ok w b n f) {i : Nat} (hi : i < n) :
    ∃ (ao0 : Option Addr) (n0 cap0 c0 : Nat) (ao1 : Option Addr) (n1 cap1 c1 : Nat), f i = c0 + c1 ∧ w.cell? ⟨b, i * 2, none⟩ = some (.slice ao0 n0 cap0) ∧ w.frozen? ⟨b, i * 2, none⟩ = false ∧ SlSh shPlanKind 31 ok w ao0 n0 c0 ∧ w.cell? ⟨b, i * 2 + 1, none⟩ = some (.slice ao1 n1 cap1) ∧ w.frozen? ⟨b, i * 2 + 1, none⟩ = false ∧ SlSh shPlanPoint 93 ok w ao1 n1 c1 := by
  obtain ⟨cs, h1, h2⟩ := h.elem hi
  obtain ⟨_, _, n0x, n0y, rfl, e0, ⟨ao0, n0, cap0, rfl, q0⟩, ⟨ao1, n1, cap1, rfl, q1⟩⟩ := h1
  refine ⟨ao0, n0, cap0, _, ao1, n1, cap1, _, by omega, (h2 0 (by decide)).1, (h2 0 (by decide)).2, q0, (h2 1 (by decide)).1, (h2 1 (by decide)).2, q1⟩

set_option maxHeartbeats 1000000 in
theorem toPlanBase_sh (x : DPlanBase) (ao0 : Option Addr) (cap0 : Nat) (ao1 : Option Addr) (cap1 : Nat) (w : World) (p0 : SliceAt vPlanKind (old w) w ao0 cap0 x.1) (p1 : SliceAt vPlanPoint (old w) w ao1 cap1 x.2) (hn : wPlanBase x ≤ 1048576) :
    Calls Tryz.prog 27 #[.agg #[.slice ao0 x.1.length cap0, .slice ao1 x.2.length cap1]] w fun e w' => ∃ ao0' cap0', ∃ ao1' cap1', e = .returned (.agg #[.slice ao0' x.1.length cap0', .slice ao1' x.2.length cap1']) ∧ (SliceAt vPlanKind (fresh w w') w' ao0' cap0' x.1 ∧ SlSh shPlanKind 31 (fresh w w') w' ao0' x.1.length (cnPlanKindS x.1)) ∧ (SliceAt vPlanPoint (fresh w w') w' ao1' cap1' x.2 ∧ SlSh shPlanPoint 93 (fresh w w') w' ao1' x.2.length (cnPlanPointS x.2)) ∧ Below w.heap.size w w' := by
  have s0 : wPlanKindS x.1 ≤ 1048576 := by unfold wPlanBase at hn; omega
  have s1 : wPlanPointS x.2 ≤ 1048576 := by unfold wPlanBase at hn; omega
  clear hn
  go_enter Tryz.func27, Tryz.ntmps27
  go_wp2_with fail
  have b0 : Below w.heap.size w (((w.alloc (.cells #[.slice ao0 x.1.length cap0, .slice ao1 x.2.length cap1] 25)).alloc (.cells #[.slice none 0 0, .slice none 0 0] 40)).alloc (.cells #[.slice none 0 0, .slice none 0 0] 40)) := (((Below.refl w.heap.size w).alloc (Nat.le_refl _) _).alloc (by simp) _).alloc (by simp; try omega) _
  refine (toPlanKindS_sh ao0 cap0 x.1 _ s0 (p0.later b0)).mono ?_
  rintro e w0 ⟨ao0', cap0', rfl, q0, r0, g0⟩
  have b0' := b0.trans (g0.mono b0.size)
  obtain ⟨hc0, hf0⟩ := bcell g0
  have z0 := g0.size
  try simp at z0 hc0 hf0
  have y00 : w.heap.size < w0.heap.size := by omega
  have y01 : w.heap.size + 1 < w0.heap.size := by omega
  have y02 : w.heap.size + 1 + 1 < w0.heap.size := by omega
  go_wp2_with fail
  have b1 : Below w.heap.size w (w0.setCell ⟨w.heap.size + 1 + 1, 0, none⟩ (.slice ao0' x.1.length cap0')) := (b0'.setCell (p := ⟨w.heap.size + 1 + 1, 0, none⟩) (by simp; try omega) _)
  refine (toPlanPointS_sh ao1 cap1 x.2 _ s1 (p1.later b1)).mono ?_
  rintro e w1 ⟨ao1', cap1', rfl, q1, r1, g1⟩
  have b1' := b1.trans (g1.mono b1.size)
  obtain ⟨hc1, hf1⟩ := bcell g1
  have z1 := g1.size
  try simp at z1 hc1 hf1
  have y10 : w.heap.size < w1.heap.size := by omega
  have y11 : w.heap.size + 1 < w1.heap.size := by omega
  have y12 : w.heap.size + 1 + 1 < w1.heap.size := by omega
  go_wp2
  refine bodyPost_ret (v := .agg #[.slice ao0' x.1.length cap0', .slice ao1' x.2.length cap1']) (by simp [results, Tryz.results27, go_sem, hc0, hf0, y00, y01, y02, hc1, hf1, y10, y11, y12]) rfl ⟨ao0', cap0', ao1', cap1', rfl, ?_, ?_, ?_⟩
  · refine ⟨SliceAt.mono (q0.stays ?_) ?_, SlSh.mono (r0.stays ?_) ?_⟩
    · intro b hb
      have hb1 := hb.1
      have hb2 := hb.2
      simp at hb1 hb2
      have hne1 : b ≠ w.heap.size + 1 := by omega
      have hne2 : b ≠ w.heap.size + 1 + 1 := by omega
      have hl1 : b < w0.heap.size := by omega
      have hk1 := g1.block b (by simpa using hl1)
      simp [Below.heap_setCell, hne1, hne2, hk1]
    · intro b hb
      have hb1 := hb.1
      have hb2 := hb.2
      simp at hb1 hb2
      exact ⟨by omega, by simp; omega⟩
    · intro b hb
      have hb1 := hb.1
      have hb2 := hb.2
      simp at hb1 hb2
      have hne1 : b ≠ w.heap.size + 1 := by omega
      have hne2 : b ≠ w.heap.size + 1 + 1 := by omega
      have hl1 : b < w0.heap.size := by omega
      have hk1 := g1.block b (by simpa using hl1)
      simp [Below.heap_setCell, hne1, hne2, hk1]
    · intro b hb
      have hb1 := hb.1
      have hb2 := hb.2
      simp at hb1 hb2
      exact ⟨by omega, by simp; omega⟩
  · refine ⟨SliceAt.mono (q1.stays ?_) ?_, SlSh.mono (r1.stays ?_) ?_⟩
    · intro b hb
      have hb1 := hb.1
      have hb2 := hb.2
      simp at hb1 hb2
      have hne1 : b ≠ w.heap.size + 1 := by omega
      have hne2 : b ≠ w.heap.size + 1 + 1 := by omega
      simp [Below.heap_setCell, hne1, hne2]
    · intro b hb
      have hb1 := hb.1
      have hb2 := hb.2
      simp at hb1 hb2
      exact ⟨by omega, by simp; omega⟩
    · intro b hb
      have hb1 := hb.1
      have hb2 := hb.2
      simp at hb1 hb2
      have hne1 : b ≠ w.heap.size + 1 := by omega
      have hne2 : b ≠ w.heap.size + 1 + 1 := by omega
      simp [Below.heap_setCell, hne1, hne2]
    · intro b hb
      have hb1 := hb.1
      have hb2 := hb.2
      simp at hb1 hb2
      exact ⟨by omega, by simp; omega⟩
  · repeat (first | refine Below.setCell ?_ (by simp; try omega) _ | exact b1')

set_option maxRecDepth 100000 in
set_option maxHeartbeats 1000000 in
theorem markPlanBase_any (ao0 : Option Addr) (n0 cap0 c0 : Nat) (ao1 : Option Addr) (n1 cap1 c1 : Nat) (k : Int) (lo hi : Nat) (w : World) (q0 : SlSh shPlanKind 31 (fun b => lo ≤ b ∧ b < hi) w ao0 n0 c0) (q1 : SlSh shPlanPoint 93 (fun b => lo ≤ b ∧ b < hi) w ao1 n1 c1) (hlo : lo ≤ hi) (hhi : hi ≤ w.heap.size) (hk : 0 ≤ k) (hc : k + (c0 + c1 : Nat) ≤ 1099511627776) :
    Calls Tryz.prog 35 #[.agg #[.slice ao0 n0 cap0, .slice ao1 n1 cap1], .int .i64 k] w fun e w' => e = .returned (.int .i64 (k + (c0 + c1 : Nat))) ∧ Same lo hi w w' := by
  have hB0 : Below w.heap.size w (w.alloc (.cells #[.slice ao0 n0 cap0, .slice ao1 n1 cap1] 40)) := (Below.refl _ _).alloc (Nat.le_refl _) _
  have hY0 : Same lo hi w (w.alloc (.cells #[.slice ao0 n0 cap0, .slice ao1 n1 cap1] 40)) := Same.ofBelow hB0 (by omega) hhi
  have hs0 : hi < (w.alloc (.cells #[.slice ao0 n0 cap0, .slice ao1 n1 cap1] 40)).heap.size := by simp; omega
  have e0 : (w.alloc (.cells #[.slice ao0 n0 cap0, .slice ao1 n1 cap1] 40)).heap[w.heap.size]? = some (.cells #[.slice ao0 n0 cap0, .slice ao1 n1 cap1] 40 (0, 0)) := heap_alloc_new _ _
  go_enter Tryz.func35, Tryz.ntmps35
  have hT0 := q0.turn hY0 (fun _ h => h)
  go_wp2_with fail
  refine (markPlanKindS_any _ _ _ c0 _ lo hi _ hT0 hlo (by omega) (by omega) (by omega)).mono ?_
  rintro e w0 ⟨rfl, g0⟩
  have hY1 := hY0.trans g0
  have x0 := (g0.above w.heap.size hhi (by first | omega | (simp; done))).trans e0
  have hs1 : hi < w0.heap.size := by have := g0.below.size; omega
  have ws0 : w.heap.size < w0.heap.size := by have := g0.below.size; first | omega | (simp at this; omega)
  clear g0 hT0
  have hT1 := q1.turn hY1 (fun _ h => h)
  have d1 : w0.cell? ⟨w.heap.size, 1, none⟩ = some (.slice ao1 n1 cap1) := (cell_of_block x0).trans rfl
  go_wp2_with fail
  refine (markPlanPointS_any _ _ _ c1 _ lo hi _ hT1 hlo (by omega) (by omega) (by omega)).mono ?_
  rintro e w1 ⟨rfl, g1⟩
  have hY2 := hY1.trans g1
  have x1 := (g1.above w.heap.size hhi (by first | omega | (simp; done))).trans x0
  have hs2 : hi < w1.heap.size := by have := g1.below.size; omega
  have ws1 : w.heap.size < w1.heap.size := by have := g1.below.size; first | omega | (simp at this; omega)
  clear g1 hT1 d1
  have HE : Hid (k + (c0 : Int) + (c1 : Int) = k + ((c0 + c1 : Nat) : Int)) := by show _ = _; omega
  go_wp2
  go_ret
  exact ⟨by rw [← HE.out]; rfl, hY2⟩

end Go.Proofs.YtgnjkpmbppmoeaaGreat

/- DERIVED. By gm.py: the shape of PlanBook; 'to' ends in it; 'mark' over it. -/
namespace Go.Proofs.YtgnjkpmbppmoeaaGreat
open Go.RowKit
set_option linter.unusedSimpArgs false
set_option linter.unusedVariables false

set_option maxHeartbeats 1000000 in
theorem toPlanBook_sh (x : DPlanBook) (ao0 : Option Addr) (cap0 : Nat) (ao1 : Option Addr) (cap1 : Nat) (ao2 : Option Addr) (cap2 : Nat) (w : World) (p0 : SliceAt vPlanKind (old w) w ao0 cap0 x.1.1) (p1 : SliceAt vPlanPoint (old w) w ao1 cap1 x.1.2) (p2 : SliceAt vPlanEntry (old w) w ao2 cap2 x.2) (hn : wPlanBook x ≤ 1048576) :
    Calls Tryz.prog 8 #[.agg #[.slice ao0 x.1.1.length cap0, .slice ao1 x.1.2.length cap1, .slice ao2 x.2.length cap2]] w fun e w' => ∃ ao0' cap0', ∃ ao1' cap1', ∃ ao2' cap2', e = .returned (.agg #[.slice ao0' x.1.1.length cap0', .slice ao1' x.1.2.length cap1', .slice ao2' x.2.length cap2']) ∧ (SliceAt vPlanKind (fresh w w') w' ao0' cap0' x.1.1 ∧ SlSh shPlanKind 31 (fresh w w') w' ao0' x.1.1.length (cnPlanKindS x.1.1)) ∧ (SliceAt vPlanPoint (fresh w w') w' ao1' cap1' x.1.2 ∧ SlSh shPlanPoint 93 (fresh w w') w' ao1' x.1.2.length (cnPlanPointS x.1.2)) ∧ (SliceAt vPlanEntry (fresh w w') w' ao2' cap2' x.2 ∧ SlSh shPlanEntry 67 (fresh w w') w' ao2' x.2.length (cnPlanEntryS x.2)) ∧ Below w.heap.size w w' := by
  have s0 : wPlanBase x.1 ≤ 1048576 := by unfold wPlanBook at hn; omega
  have s2 : wPlanEntryS x.2 ≤ 1048576 := by unfold wPlanBook at hn; omega
  clear hn
  go_enter Tryz.func8, Tryz.ntmps8
  go_wp2_with fail
  have b0 : Below w.heap.size w (((w.alloc (.cells #[.slice ao0 x.1.1.length cap0, .slice ao1 x.1.2.length cap1, .slice ao2 x.2.length cap2] 28)).alloc (.cells #[.slice none 0 0, .slice none 0 0, .slice none 0 0] 43)).alloc (.cells #[.slice none 0 0, .slice none 0 0, .slice none 0 0] 43)) := (((Below.refl w.heap.size w).alloc (Nat.le_refl _) _).alloc (by simp) _).alloc (by simp; try omega) _
  refine (toPlanBase_sh x.1 ao0 cap0 ao1 cap1 _ (p0.later b0) (p1.later b0) s0).mono ?_
  rintro e w0 ⟨ao0', cap0', ao1', cap1', rfl, ⟨q0, r0⟩, ⟨q1, r1⟩, g0⟩
  have b0' := b0.trans (g0.mono b0.size)
  obtain ⟨hc0, hf0⟩ := bcell g0
  have z0 := g0.size
  try simp at z0 hc0 hf0
  have y00 : w.heap.size < w0.heap.size := by omega
  have y01 : w.heap.size + 1 < w0.heap.size := by omega
  have y02 : w.heap.size + 1 + 1 < w0.heap.size := by omega
  go_wp2_with fail
  have b2 : Below w.heap.size w ((w0.setCell ⟨w.heap.size + 1 + 1, 0, none⟩ (.slice ao0' x.1.1.length cap0')).setCell ⟨w.heap.size + 1 + 1, 1, none⟩ (.slice ao1' x.1.2.length cap1')) := ((b0'.setCell (p := ⟨w.heap.size + 1 + 1, 0, none⟩) (by simp; try omega) _).setCell (p := ⟨w.heap.size + 1 + 1, 1, none⟩) (by simp; try omega) _)
  refine (toPlanEntryS_sh ao2 cap2 x.2 _ s2 (p2.later b2)).mono ?_
  rintro e w2 ⟨ao2', cap2', rfl, q2, r2, g2⟩
  have b2' := b2.trans (g2.mono b2.size)
  obtain ⟨hc2, hf2⟩ := bcell g2
  have z2 := g2.size
  try simp at z2 hc2 hf2
  have y20 : w.heap.size < w2.heap.size := by omega
  have y21 : w.heap.size + 1 < w2.heap.size := by omega
  have y22 : w.heap.size + 1 + 1 < w2.heap.size := by omega
  go_wp2
  refine bodyPost_ret (v := .agg #[.slice ao0' x.1.1.length cap0', .slice ao1' x.1.2.length cap1', .slice ao2' x.2.length cap2']) (by simp [results, Tryz.results8, go_sem, hc0, hf0, y00, y01, y02, hc2, hf2, y20, y21, y22]) rfl ⟨ao0', cap0', ao1', cap1', ao2', cap2', rfl, ?_, ?_, ?_, ?_⟩
  · refine ⟨SliceAt.mono (q0.stays ?_) ?_, SlSh.mono (r0.stays ?_) ?_⟩
    · intro b hb
      have hb1 := hb.1
      have hb2 := hb.2
      simp at hb1 hb2
      have hne1 : b ≠ w.heap.size + 1 := by omega
      have hne2 : b ≠ w.heap.size + 1 + 1 := by omega
      have hl2 : b < w0.heap.size := by omega
      have hk2 := g2.block b (by simpa using hl2)
      simp [Below.heap_setCell, hne1, hne2, hk2]
    · intro b hb
      have hb1 := hb.1
      have hb2 := hb.2
      simp at hb1 hb2
      exact ⟨by omega, by simp; omega⟩
    · intro b hb
      have hb1 := hb.1
      have hb2 := hb.2
      simp at hb1 hb2
      have hne1 : b ≠ w.heap.size + 1 := by omega
      have hne2 : b ≠ w.heap.size + 1 + 1 := by omega
      have hl2 : b < w0.heap.size := by omega
      have hk2 := g2.block b (by simpa using hl2)
      simp [Below.heap_setCell, hne1, hne2, hk2]
    · intro b hb
      have hb1 := hb.1
      have hb2 := hb.2
      simp at hb1 hb2
      exact ⟨by omega, by simp; omega⟩
  · refine ⟨SliceAt.mono (q1.stays ?_) ?_, SlSh.mono (r1.stays ?_) ?_⟩
    · intro b hb
      have hb1 := hb.1
      have hb2 := hb.2
      simp at hb1 hb2
      have hne1 : b ≠ w.heap.size + 1 := by omega
      have hne2 : b ≠ w.heap.size + 1 + 1 := by omega
      have hl2 : b < w0.heap.size := by omega
      have hk2 := g2.block b (by simpa using hl2)
      simp [Below.heap_setCell, hne1, hne2, hk2]
    · intro b hb
      have hb1 := hb.1
      have hb2 := hb.2
      simp at hb1 hb2
      exact ⟨by omega, by simp; omega⟩
    · intro b hb
      have hb1 := hb.1
      have hb2 := hb.2
      simp at hb1 hb2
      have hne1 : b ≠ w.heap.size + 1 := by omega
      have hne2 : b ≠ w.heap.size + 1 + 1 := by omega
      have hl2 : b < w0.heap.size := by omega
      have hk2 := g2.block b (by simpa using hl2)
      simp [Below.heap_setCell, hne1, hne2, hk2]
    · intro b hb
      have hb1 := hb.1
      have hb2 := hb.2
      simp at hb1 hb2
      exact ⟨by omega, by simp; omega⟩
  · refine ⟨SliceAt.mono (q2.stays ?_) ?_, SlSh.mono (r2.stays ?_) ?_⟩
    · intro b hb
      have hb1 := hb.1
      have hb2 := hb.2
      simp at hb1 hb2
      have hne1 : b ≠ w.heap.size + 1 := by omega
      have hne2 : b ≠ w.heap.size + 1 + 1 := by omega
      simp [Below.heap_setCell, hne1, hne2]
    · intro b hb
      have hb1 := hb.1
      have hb2 := hb.2
      simp at hb1 hb2
      exact ⟨by omega, by simp; omega⟩
    · intro b hb
      have hb1 := hb.1
      have hb2 := hb.2
      simp at hb1 hb2
      have hne1 : b ≠ w.heap.size + 1 := by omega
      have hne2 : b ≠ w.heap.size + 1 + 1 := by omega
      simp [Below.heap_setCell, hne1, hne2]
    · intro b hb
      have hb1 := hb.1
      have hb2 := hb.2
      simp at hb1 hb2
      exact ⟨by omega, by simp; omega⟩
  · repeat (first | refine Below.setCell ?_ (by simp; try omega) _ | exact b2')

set_option maxRecDepth 100000 in
set_option maxHeartbeats 1000000 in
theorem markPlanBook_any (ao0 : Option Addr) (n0 cap0 c0 : Nat) (ao1 : Option Addr) (n1 cap1 c1 : Nat) (ao2 : Option Addr) (n2 cap2 c2 : Nat) (k : Int) (lo hi : Nat) (w : World) (q0 : SlSh shPlanKind 31 (fun b => lo ≤ b ∧ b < hi) w ao0 n0 c0) (q1 : SlSh shPlanPoint 93 (fun b => lo ≤ b ∧ b < hi) w ao1 n1 c1) (q2 : SlSh shPlanEntry 67 (fun b => lo ≤ b ∧ b < hi) w ao2 n2 c2) (hlo : lo ≤ hi) (hhi : hi ≤ w.heap.size) (hk : 0 ≤ k) (hc : k + (c0 + c1 + c2 : Nat) ≤ 1099511627776) :
    Calls Tryz.prog 12 #[.agg #[.slice ao0 n0 cap0, .slice ao1 n1 cap1, .slice ao2 n2 cap2], .int .i64 k] w fun e w' => e = .returned (.int .i64 (k + (c0 + c1 + c2 : Nat))) ∧ Same lo hi w w' := by
  have hB0 : Below w.heap.size w (w.alloc (.cells #[.slice ao0 n0 cap0, .slice ao1 n1 cap1, .slice ao2 n2 cap2] 43)) := (Below.refl _ _).alloc (Nat.le_refl _) _
  have hY0 : Same lo hi w (w.alloc (.cells #[.slice ao0 n0 cap0, .slice ao1 n1 cap1, .slice ao2 n2 cap2] 43)) := Same.ofBelow hB0 (by omega) hhi
  have hs0 : hi < (w.alloc (.cells #[.slice ao0 n0 cap0, .slice ao1 n1 cap1, .slice ao2 n2 cap2] 43)).heap.size := by simp; omega
  have e0 : (w.alloc (.cells #[.slice ao0 n0 cap0, .slice ao1 n1 cap1, .slice ao2 n2 cap2] 43)).heap[w.heap.size]? = some (.cells #[.slice ao0 n0 cap0, .slice ao1 n1 cap1, .slice ao2 n2 cap2] 43 (0, 0)) := heap_alloc_new _ _
  go_enter Tryz.func12, Tryz.ntmps12
  have hT0 := q0.turn hY0 (fun _ h => h)
  have hT1 := q1.turn hY0 (fun _ h => h)
  go_wp2_with fail
  refine (markPlanBase_any ao0 n0 cap0 c0 ao1 n1 cap1 c1 _ lo hi _ hT0 hT1 hlo (by omega) (by omega) (by omega)).mono ?_
  rintro e w0 ⟨rfl, g0⟩
  have hY1 := hY0.trans g0
  have x0 := (g0.above w.heap.size hhi (by first | omega | (simp; done))).trans e0
  have hs1 : hi < w0.heap.size := by have := g0.below.size; omega
  have ws0 : w.heap.size < w0.heap.size := by have := g0.below.size; first | omega | (simp at this; omega)
  clear g0 hT0 hT1
  have hT2 := q2.turn hY1 (fun _ h => h)
  have d2 : w0.cell? ⟨w.heap.size, 2, none⟩ = some (.slice ao2 n2 cap2) := (cell_of_block x0).trans rfl
  go_wp2_with fail
  refine (markPlanEntryS_any _ _ _ c2 _ lo hi _ hT2 hlo (by omega) (by omega) (by omega)).mono ?_
  rintro e w2 ⟨rfl, g2⟩
  have hY3 := hY1.trans g2
  have x2 := (g2.above w.heap.size hhi (by first | omega | (simp; done))).trans x0
  have hs3 : hi < w2.heap.size := by have := g2.below.size; omega
  have ws2 : w.heap.size < w2.heap.size := by have := g2.below.size; first | omega | (simp at this; omega)
  clear g2 hT2 d2
  have HE : Hid (k + ((c0 + c1 : Nat) : Int) + (c2 : Int) = k + ((c0 + c1 + c2 : Nat) : Int)) := by show _ = _; omega
  go_wp2
  go_ret
  exact ⟨by rw [← HE.out]; rfl, hY3⟩

end Go.Proofs.YtgnjkpmbppmoeaaGreat
