/- DERIVED. By gm.py: the shape of PlanKind; 'to' ends in it; 'mark' over it. -/
import Derived.Test.YtgnjkpmbppmoeaaGreatKGMa
import Derived.Test.YtgnjkpmbppmoeaaGreatKGVa
import Derived.Test.YtgnjkpmbppmoeaaGreatKGVb
namespace Go.Proofs.YtgnjkpmbppmoeaaGreat
open Go.RowKit
set_option linter.unusedSimpArgs false
set_option linter.unusedVariables false

def shPlanKind : Shape := shPair shFlat (shPair shFlat shFlat)
theorem shPlanKind_size : shPlanKind.size = 3 := rfl
def cnPlanKind (x : DPlanKind) : Nat := 1 + (1 + 1)
def cnPlanKindS (l : List DPlanKind) : Nat := (l.map cnPlanKind).sum
theorem cnPlanKindS_le (l : List DPlanKind) : cnPlanKindS l ≤ 16 * wPlanKindS l := by
  unfold cnPlanKindS wPlanKindS
  refine cnt_sum cnPlanKind wPlanKind (fun x => ?_) l
  unfold cnPlanKind wPlanKind
  omega

theorem hold_PlanKind {ok : Nat → Prop} {w : World} {x : DPlanKind} : shPlanKind.holds ok w [.string x.1, .int .i64 x.2.1, .int .i64 x.2.2] (cnPlanKind x) :=
  ⟨[_], _, _, _, rfl, rfl, ⟨_, rfl, rfl, rfl⟩, ⟨[_], _, _, _, rfl, rfl, ⟨_, rfl, rfl, rfl⟩, ⟨_, rfl, rfl, rfl⟩⟩⟩

theorem elemSh_PlanKind {t : TypeId} {ok : Nat → Prop} {w : World} {b n : Nat} {f : Nat → Nat} (h : RowSh shPlanKind t ok w b n f) {i : Nat} (hi : i < n) :
    ∃ (v0 : Value) (v1 : Value) (v2 : Value), f i = 1 + (1 + 1) ∧ w.cell? ⟨b, i * 3, none⟩ = some v0 ∧ w.frozen? ⟨b, i * 3, none⟩ = false ∧ isSl v0 = false ∧ w.cell? ⟨b, i * 3 + 1, none⟩ = some v1 ∧ w.frozen? ⟨b, i * 3 + 1, none⟩ = false ∧ isSl v1 = false ∧ w.cell? ⟨b, i * 3 + 2, none⟩ = some v2 ∧ w.frozen? ⟨b, i * 3 + 2, none⟩ = false ∧ isSl v2 = false := by
  obtain ⟨cs, h1, h2⟩ := h.elem hi
  obtain ⟨_, _, n0x, n0y, rfl, e0, ⟨v0, rfl, q0, m0⟩, ⟨_, _, n1x, n1y, rfl, e1, ⟨v1, rfl, q1, m1⟩, ⟨v2, rfl, q2, m2⟩⟩⟩ := h1
  refine ⟨v0, v1, v2, by omega, (h2 0 (by decide)).1, (h2 0 (by decide)).2, q0, (h2 1 (by decide)).1, (h2 1 (by decide)).2, q1, (h2 2 (by decide)).1, (h2 2 (by decide)).2, q2⟩

theorem vwPlanKind_size : (vWith vPlanKind shPlanKind cnPlanKind).size = 3 := rfl

set_option maxHeartbeats 1000000 in
theorem toPlanKindS_sh (ao : Option Addr) (cap : Nat) (l : List DPlanKind) (w : World) (hn : wPlanKindS l ≤ 1048576) (h : SliceAt vPlanKind (old w) w ao cap l) :
    Calls Tryz.prog 62 #[.slice ao l.length cap] w fun e w' => ∃ ao' cap', e = .returned (.slice ao' l.length cap') ∧ SliceAt vPlanKind (fresh w w') w' ao' cap' l ∧ SlSh shPlanKind 31 (fresh w w') w' ao' l.length (cnPlanKindS l) ∧ Below w.heap.size w w' := by
  have hl : l.length ≤ 1048576 := by unfold wPlanKindS at hn; omega
  obtain ⟨i0, hi, hz0, hz1, hz2⟩ := info_parts Tryz.info_PlanKind
  go_enter Tryz.func62, Tryz.ntmps62
  go_wp2_with (at_make; refine wpList_make_full _ rfl _ _ 37 rfl w.heap.size 31 i0 _ 3 Tryz.underlying37 hi hz0 hz1 _ _ _ _ l.length rfl rfl rfl rfl ?c1 ?c2 ?c3 ?_)
  case c1 => rw [hz2]; omega
  case c2 => unfold maxLen; omega
  case c3 => exact Nat.le_refl _
  intro w1 hown hgr
  have hR0 : RowAt (vWith vPlanKind shPlanKind cnPlanKind) w1 w.heap.size 31 0 l := RowAt.start (A := vWith vPlanKind shPlanKind cnPlanKind) rfl hown
  have hB0 : Below w.heap.size w w1 := (Below.refl _ _).grown hgr (Nat.le_refl _) (by intro k hk; cases hk)
  clear hown hgr hi hz0 hz1 hz2
  go_wp2
  go_loopw [4] (fun i wr => ∃ k : Nat, k ≤ l.length ∧ i = .int .i64 k ∧ Below w.heap.size w wr ∧ RowAt (vWith vPlanKind shPlanKind cnPlanKind) wr w.heap.size 31 k l) (fun i _ => l.length - (intOf i).toNat)
  case atStart => exact ⟨0, Nat.zero_le _, rfl, hB0, hR0⟩
  case round =>
    obtain ⟨k, hk, rfl, hbel, hR⟩ := hrel
    by_cases hlt : k < l.length
    · obtain ⟨b, off, rfl, hok, c0, c1, c2, p0, p1, p2⟩ := elem_PlanKind h hlt
      have d0 := (hbel.cell (p := ⟨b, off + k * 3, none⟩) hok).trans c0
      have d1 := (hbel.cell (p := ⟨b, off + k * 3 + 1, none⟩) hok).trans c1
      have d2 := (hbel.cell (p := ⟨b, off + k * 3 + 2, none⟩) hok).trans c2
      clear c0 c1 c2 hR0 hB0
      go_wp2_with fail
      refine (toPlanKind_any _ _).mono ?_
      rintro e w2 ⟨rfl, hb2⟩
      have hR2 := hR.later hb2
      have hB2 := hbel.trans (hb2.mono hbel.size)
      have hR3 := hR2.store hlt (c := [.string l[k].1, .int .i64 l[k].2.1, .int .i64 l[k].2.2]) ⟨mk_PlanKind p0 p1 p2, hold_PlanKind⟩
      have hB3 := put_below w.heap.size w.heap.size (Nat.le_refl _) [.string l[k].1, .int .i64 l[k].2.1, .int .i64 l[k].2.2] _ _ (k * 3) hB2
      obtain ⟨u0, e0⟩ := hR2.cell (i := k * 3) (by rw [vwPlanKind_size]; omega)
      obtain ⟨u1, e1⟩ := hR2.cell (i := k * 3 + 1) (by rw [vwPlanKind_size]; omega)
      obtain ⟨u2, e2⟩ := hR2.cell (i := k * 3 + 2) (by rw [vwPlanKind_size]; omega)
      have f0 := hR2.free (k * 3)
      have f1 := hR2.free (k * 3 + 1)
      have f2 := hR2.free (k * 3 + 2)
      clear hR hR2 hB2 hb2
      go_wp2
      go_roundw
      case rel => exact ⟨k + 1, by omega, by go_num, hB3, hR3⟩
      case measure => simp [intOf]; omega
    · have hk2 : k = l.length := by omega
      subst hk2
      have hS := (hR.done (by unfold maxLen; omega)).bare
      have hSh := hR.shape (by unfold maxLen; omega) rfl
      go_wp2
      go_ret
      exact ⟨_, _, rfl, hS, hSh, hbel⟩

set_option maxRecDepth 100000 in
set_option maxHeartbeats 2000000 in
theorem markPlanKindS_any (ao : Option Addr) (n cap c : Nat) (k : Int) (lo hi : Nat) (w : World) (h : SlSh shPlanKind 31 (fun b => lo ≤ b ∧ b < hi) w ao n c) (hlo : lo ≤ hi) (hhi : hi ≤ w.heap.size) (hk : 0 ≤ k) (hc : k + c ≤ 1099511627776) :
    Calls Tryz.prog 74 #[.slice ao n cap, .int .i64 k] w fun e w' => e = .returned (.int .i64 (k + c)) ∧ Same lo hi w w' := by
  have hm : n ≤ 9223372036854775807 := h.1
  rcases h.2 with ⟨rfl, rfl⟩ | ⟨b, f, rfl, hcf, hR⟩
  · go_enter Tryz.func74, Tryz.ntmps74
    go_wp2
    go_loop [1, 5] (fun a i => a = .int .i64 k ∧ i = .int .i64 0) (fun _ _ => 0)
    case atStart => exact ⟨rfl, rfl⟩
    case round =>
      obtain ⟨rfl, rfl⟩ := hrel
      go_wp2
      go_ret
      exact ⟨by simp, Same.refl _ _ _⟩
  · have hb1 := hR.1.1
    have hb2 := hR.1.2
    have HF : Hid (c = sumTo f n) := hcf
    clear hcf h
    go_enter Tryz.func74, Tryz.ntmps74
    go_wp2
    go_loopw [1, 5] (fun a i wr => ∃ (j : Nat) (q : Int), j ≤ n ∧ i = .int .i64 j ∧ a = .int .i64 q ∧ Hid (q = k + sumTo f j) ∧ Same lo hi w wr) (fun _ i _ => n - (intOf i).toNat)
    case atStart => exact ⟨0, k, Nat.zero_le _, rfl, rfl, by show _ = _; simp [sumTo], Same.refl _ _ _⟩
    case round =>
      obtain ⟨j, q, hj, rfl, rfl, hq, hS⟩ := hrel
      by_cases hlt : j < n
      · have hs1 : sumTo f j + f j ≤ sumTo f n := sumTo_le f (m := j + 1) hlt
        have hq0 : 0 ≤ q := by have := hq.out; omega
        have hq1 : q + f j ≤ 1099511627776 := by have h1 := hq.out; have h2 := HF.out; omega
        have HQ : Hid (q + f j = k + sumTo f (j + 1)) := by have h1 := hq.out; show _ = _; simp only [sumTo]; omega
        have hRw := hR.turn hS (fun _ h => h)
        have hsz := hS.below.size
        clear hs1 hq
        obtain ⟨v0, v1, v2, hf, d0, f0, z0, d1, f1, z1, d2, f2, z2⟩ := elemSh_PlanKind hRw hlt
        have HG0 : Hid _ := hf
        clear hf
        have hX1 : Same lo hi w wr := hS
        have hXs1 := hX1.below.size
        clear hRw
        go_wp2_with fail
        refine (markText_ex _ _ (by omega) (by have := HG0.out; omega)).mono ?_
        rintro e w1 ⟨t1, rfl, g1⟩
        have hY1 := hX1.trans (Same.ofBelow (lo := lo) (hi := hi) g1 (by omega) (by omega))
        clear d0 f0 z0 d1 f1 z1 d2 f2 z2 hX1 hXs1 g1 hS
        have hRw := hR.turn hY1 (fun _ h => h)
        have hsz := hY1.below.size
        obtain ⟨v0, v1, v2, hf, d0, f0, z0, d1, f1, z1, d2, f2, z2⟩ := elemSh_PlanKind hRw hlt
        have HG1 : Hid _ := hf
        clear hf
        have hE : Same lo hi w (((w1.setCell ⟨b, j * 3, none⟩ (.string t1)).setCell ⟨b, j * 3 + 1, none⟩ (.int .i64 (q + 1))).setCell ⟨b, j * 3 + 2, none⟩ (.int .i64 (q + 1 + 1))) := (((hY1.set hb1 hb2 d0 z0 rfl).set hb1 hb2 ((set_ne _ _ (by omega)).trans d1) z1 rfl).set hb1 hb2 ((set_ne _ _ (by omega)).trans ((set_ne _ _ (by omega)).trans d2)) z2 rfl)
        clear hRw
        go_wp2
        go_roundw
        case rel => exact ⟨j + 1, q + 1 + 1 + 1, by omega, by go_num, by go_num, by have := HQ.out; have := HG0.out; have := HG1.out; show _ = _; omega, hE⟩
        case measure => simp [intOf]; omega
      · have hje : j = n := by omega
        subst hje
        have HE : Hid (q = k + c) := by have h1 := hq.out; have h2 := HF.out; show _ = _; omega
        clear hq HF
        go_wp2
        go_ret
        exact ⟨by rw [HE.out]; rfl, hS⟩

end Go.Proofs.YtgnjkpmbppmoeaaGreat

/- DERIVED. By gm.py: the shape of PlanPoint; 'to' ends in it; 'mark' over it. -/
namespace Go.Proofs.YtgnjkpmbppmoeaaGreat
open Go.RowKit
set_option linter.unusedSimpArgs false
set_option linter.unusedVariables false

def shPlanPoint : Shape := shPair shFlat (shPair shFlat shFlat)
theorem shPlanPoint_size : shPlanPoint.size = 3 := rfl
def cnPlanPoint (x : DPlanPoint) : Nat := 1 + (1 + 1)
def cnPlanPointS (l : List DPlanPoint) : Nat := (l.map cnPlanPoint).sum
theorem cnPlanPointS_le (l : List DPlanPoint) : cnPlanPointS l ≤ 16 * wPlanPointS l := by
  unfold cnPlanPointS wPlanPointS
  refine cnt_sum cnPlanPoint wPlanPoint (fun x => ?_) l
  unfold cnPlanPoint wPlanPoint
  omega

theorem hold_PlanPoint {ok : Nat → Prop} {w : World} {x : DPlanPoint} : shPlanPoint.holds ok w [.string x.1, .int .i64 x.2.1, .int .i64 x.2.2] (cnPlanPoint x) :=
  ⟨[_], _, _, _, rfl, rfl, ⟨_, rfl, rfl, rfl⟩, ⟨[_], _, _, _, rfl, rfl, ⟨_, rfl, rfl, rfl⟩, ⟨_, rfl, rfl, rfl⟩⟩⟩

theorem elemSh_PlanPoint {t : TypeId} {ok : Nat → Prop} {w : World} {b n : Nat} {f : Nat → Nat} (h : RowSh shPlanPoint t ok w b n f) {i : Nat} (hi : i < n) :
    ∃ (v0 : Value) (v1 : Value) (v2 : Value), f i = 1 + (1 + 1) ∧ w.cell? ⟨b, i * 3, none⟩ = some v0 ∧ w.frozen? ⟨b, i * 3, none⟩ = false ∧ isSl v0 = false ∧ w.cell? ⟨b, i * 3 + 1, none⟩ = some v1 ∧ w.frozen? ⟨b, i * 3 + 1, none⟩ = false ∧ isSl v1 = false ∧ w.cell? ⟨b, i * 3 + 2, none⟩ = some v2 ∧ w.frozen? ⟨b, i * 3 + 2, none⟩ = false ∧ isSl v2 = false := by
  obtain ⟨cs, h1, h2⟩ := h.elem hi
  obtain ⟨_, _, n0x, n0y, rfl, e0, ⟨v0, rfl, q0, m0⟩, ⟨_, _, n1x, n1y, rfl, e1, ⟨v1, rfl, q1, m1⟩, ⟨v2, rfl, q2, m2⟩⟩⟩ := h1
  refine ⟨v0, v1, v2, by omega, (h2 0 (by decide)).1, (h2 0 (by decide)).2, q0, (h2 1 (by decide)).1, (h2 1 (by decide)).2, q1, (h2 2 (by decide)).1, (h2 2 (by decide)).2, q2⟩

theorem vwPlanPoint_size : (vWith vPlanPoint shPlanPoint cnPlanPoint).size = 3 := rfl

set_option maxHeartbeats 1000000 in
theorem toPlanPointS_sh (ao : Option Addr) (cap : Nat) (l : List DPlanPoint) (w : World) (hn : wPlanPointS l ≤ 1048576) (h : SliceAt vPlanPoint (old w) w ao cap l) :
    Calls Tryz.prog 63 #[.slice ao l.length cap] w fun e w' => ∃ ao' cap', e = .returned (.slice ao' l.length cap') ∧ SliceAt vPlanPoint (fresh w w') w' ao' cap' l ∧ SlSh shPlanPoint 93 (fresh w w') w' ao' l.length (cnPlanPointS l) ∧ Below w.heap.size w w' := by
  have hl : l.length ≤ 1048576 := by unfold wPlanPointS at hn; omega
  obtain ⟨i0, hi, hz0, hz1, hz2⟩ := info_parts Tryz.info_PlanPoint
  go_enter Tryz.func63, Tryz.ntmps63
  go_wp2_with (at_make; refine wpList_make_full _ rfl _ _ 38 rfl w.heap.size 93 i0 _ 3 Tryz.underlying38 hi hz0 hz1 _ _ _ _ l.length rfl rfl rfl rfl ?c1 ?c2 ?c3 ?_)
  case c1 => rw [hz2]; omega
  case c2 => unfold maxLen; omega
  case c3 => exact Nat.le_refl _
  intro w1 hown hgr
  have hR0 : RowAt (vWith vPlanPoint shPlanPoint cnPlanPoint) w1 w.heap.size 93 0 l := RowAt.start (A := vWith vPlanPoint shPlanPoint cnPlanPoint) rfl hown
  have hB0 : Below w.heap.size w w1 := (Below.refl _ _).grown hgr (Nat.le_refl _) (by intro k hk; cases hk)
  clear hown hgr hi hz0 hz1 hz2
  go_wp2
  go_loopw [4] (fun i wr => ∃ k : Nat, k ≤ l.length ∧ i = .int .i64 k ∧ Below w.heap.size w wr ∧ RowAt (vWith vPlanPoint shPlanPoint cnPlanPoint) wr w.heap.size 93 k l) (fun i _ => l.length - (intOf i).toNat)
  case atStart => exact ⟨0, Nat.zero_le _, rfl, hB0, hR0⟩
  case round =>
    obtain ⟨k, hk, rfl, hbel, hR⟩ := hrel
    by_cases hlt : k < l.length
    · obtain ⟨b, off, rfl, hok, c0, c1, c2, p0, p1, p2⟩ := elem_PlanPoint h hlt
      have d0 := (hbel.cell (p := ⟨b, off + k * 3, none⟩) hok).trans c0
      have d1 := (hbel.cell (p := ⟨b, off + k * 3 + 1, none⟩) hok).trans c1
      have d2 := (hbel.cell (p := ⟨b, off + k * 3 + 2, none⟩) hok).trans c2
      clear c0 c1 c2 hR0 hB0
      go_wp2_with fail
      refine (toPlanPoint_any _ _).mono ?_
      rintro e w2 ⟨rfl, hb2⟩
      have hR2 := hR.later hb2
      have hB2 := hbel.trans (hb2.mono hbel.size)
      have hR3 := hR2.store hlt (c := [.string l[k].1, .int .i64 l[k].2.1, .int .i64 l[k].2.2]) ⟨mk_PlanPoint p0 p1 p2, hold_PlanPoint⟩
      have hB3 := put_below w.heap.size w.heap.size (Nat.le_refl _) [.string l[k].1, .int .i64 l[k].2.1, .int .i64 l[k].2.2] _ _ (k * 3) hB2
      obtain ⟨u0, e0⟩ := hR2.cell (i := k * 3) (by rw [vwPlanPoint_size]; omega)
      obtain ⟨u1, e1⟩ := hR2.cell (i := k * 3 + 1) (by rw [vwPlanPoint_size]; omega)
      obtain ⟨u2, e2⟩ := hR2.cell (i := k * 3 + 2) (by rw [vwPlanPoint_size]; omega)
      have f0 := hR2.free (k * 3)
      have f1 := hR2.free (k * 3 + 1)
      have f2 := hR2.free (k * 3 + 2)
      clear hR hR2 hB2 hb2
      go_wp2
      go_roundw
      case rel => exact ⟨k + 1, by omega, by go_num, hB3, hR3⟩
      case measure => simp [intOf]; omega
    · have hk2 : k = l.length := by omega
      subst hk2
      have hS := (hR.done (by unfold maxLen; omega)).bare
      have hSh := hR.shape (by unfold maxLen; omega) rfl
      go_wp2
      go_ret
      exact ⟨_, _, rfl, hS, hSh, hbel⟩

set_option maxRecDepth 100000 in
set_option maxHeartbeats 2000000 in
theorem markPlanPointS_any (ao : Option Addr) (n cap c : Nat) (k : Int) (lo hi : Nat) (w : World) (h : SlSh shPlanPoint 93 (fun b => lo ≤ b ∧ b < hi) w ao n c) (hlo : lo ≤ hi) (hhi : hi ≤ w.heap.size) (hk : 0 ≤ k) (hc : k + c ≤ 1099511627776) :
    Calls Tryz.prog 75 #[.slice ao n cap, .int .i64 k] w fun e w' => e = .returned (.int .i64 (k + c)) ∧ Same lo hi w w' := by
  have hm : n ≤ 9223372036854775807 := h.1
  rcases h.2 with ⟨rfl, rfl⟩ | ⟨b, f, rfl, hcf, hR⟩
  · go_enter Tryz.func75, Tryz.ntmps75
    go_wp2
    go_loop [1, 5] (fun a i => a = .int .i64 k ∧ i = .int .i64 0) (fun _ _ => 0)
    case atStart => exact ⟨rfl, rfl⟩
    case round =>
      obtain ⟨rfl, rfl⟩ := hrel
      go_wp2
      go_ret
      exact ⟨by simp, Same.refl _ _ _⟩
  · have hb1 := hR.1.1
    have hb2 := hR.1.2
    have HF : Hid (c = sumTo f n) := hcf
    clear hcf h
    go_enter Tryz.func75, Tryz.ntmps75
    go_wp2
    go_loopw [1, 5] (fun a i wr => ∃ (j : Nat) (q : Int), j ≤ n ∧ i = .int .i64 j ∧ a = .int .i64 q ∧ Hid (q = k + sumTo f j) ∧ Same lo hi w wr) (fun _ i _ => n - (intOf i).toNat)
    case atStart => exact ⟨0, k, Nat.zero_le _, rfl, rfl, by show _ = _; simp [sumTo], Same.refl _ _ _⟩
    case round =>
      obtain ⟨j, q, hj, rfl, rfl, hq, hS⟩ := hrel
      by_cases hlt : j < n
      · have hs1 : sumTo f j + f j ≤ sumTo f n := sumTo_le f (m := j + 1) hlt
        have hq0 : 0 ≤ q := by have := hq.out; omega
        have hq1 : q + f j ≤ 1099511627776 := by have h1 := hq.out; have h2 := HF.out; omega
        have HQ : Hid (q + f j = k + sumTo f (j + 1)) := by have h1 := hq.out; show _ = _; simp only [sumTo]; omega
        have hRw := hR.turn hS (fun _ h => h)
        have hsz := hS.below.size
        clear hs1 hq
        obtain ⟨v0, v1, v2, hf, d0, f0, z0, d1, f1, z1, d2, f2, z2⟩ := elemSh_PlanPoint hRw hlt
        have HG0 : Hid _ := hf
        clear hf
        have hX1 : Same lo hi w wr := hS
        have hXs1 := hX1.below.size
        clear hRw
        go_wp2_with fail
        refine (markText_ex _ _ (by omega) (by have := HG0.out; omega)).mono ?_
        rintro e w1 ⟨t1, rfl, g1⟩
        have hY1 := hX1.trans (Same.ofBelow (lo := lo) (hi := hi) g1 (by omega) (by omega))
        clear d0 f0 z0 d1 f1 z1 d2 f2 z2 hX1 hXs1 g1 hS
        have hRw := hR.turn hY1 (fun _ h => h)
        have hsz := hY1.below.size
        obtain ⟨v0, v1, v2, hf, d0, f0, z0, d1, f1, z1, d2, f2, z2⟩ := elemSh_PlanPoint hRw hlt
        have HG1 : Hid _ := hf
        clear hf
        have hE : Same lo hi w (((w1.setCell ⟨b, j * 3, none⟩ (.string t1)).setCell ⟨b, j * 3 + 1, none⟩ (.int .i64 (q + 1))).setCell ⟨b, j * 3 + 2, none⟩ (.int .i64 (q + 1 + 1))) := (((hY1.set hb1 hb2 d0 z0 rfl).set hb1 hb2 ((set_ne _ _ (by omega)).trans d1) z1 rfl).set hb1 hb2 ((set_ne _ _ (by omega)).trans ((set_ne _ _ (by omega)).trans d2)) z2 rfl)
        clear hRw
        go_wp2
        go_roundw
        case rel => exact ⟨j + 1, q + 1 + 1 + 1, by omega, by go_num, by go_num, by have := HQ.out; have := HG0.out; have := HG1.out; show _ = _; omega, hE⟩
        case measure => simp [intOf]; omega
      · have hje : j = n := by omega
        subst hje
        have HE : Hid (q = k + c) := by have h1 := hq.out; have h2 := HF.out; show _ = _; omega
        clear hq HF
        go_wp2
        go_ret
        exact ⟨by rw [HE.out]; rfl, hS⟩

end Go.Proofs.YtgnjkpmbppmoeaaGreat

/- DERIVED. By gm.py: the shape of PlanField; 'to' ends in it; 'mark' over it. -/
namespace Go.Proofs.YtgnjkpmbppmoeaaGreat
open Go.RowKit
set_option linter.unusedSimpArgs false
set_option linter.unusedVariables false

def shPlanField : Shape := shPair shFlat (shPair shFlat shFlat)
theorem shPlanField_size : shPlanField.size = 3 := rfl
def cnPlanField (x : DPlanField) : Nat := 1 + (1 + 1)
def cnPlanFieldS (l : List DPlanField) : Nat := (l.map cnPlanField).sum
theorem cnPlanFieldS_le (l : List DPlanField) : cnPlanFieldS l ≤ 16 * wPlanFieldS l := by
  unfold cnPlanFieldS wPlanFieldS
  refine cnt_sum cnPlanField wPlanField (fun x => ?_) l
  unfold cnPlanField wPlanField
  omega

theorem hold_PlanField {ok : Nat → Prop} {w : World} {x : DPlanField} : shPlanField.holds ok w [.int .i64 x.1, .int .i64 x.2.1, .string x.2.2] (cnPlanField x) :=
  ⟨[_], _, _, _, rfl, rfl, ⟨_, rfl, rfl, rfl⟩, ⟨[_], _, _, _, rfl, rfl, ⟨_, rfl, rfl, rfl⟩, ⟨_, rfl, rfl, rfl⟩⟩⟩

theorem elemSh_PlanField {t : TypeId} {ok : Nat → Prop} {w : World} {b n : Nat} {f : Nat → Nat} (h : RowSh shPlanField t ok w b n f) {i : Nat} (hi : i < n) :
    ∃ (v0 : Value) (v1 : Value) (v2 : Value), f i = 1 + (1 + 1) ∧ w.cell? ⟨b, i * 3, none⟩ = some v0 ∧ w.frozen? ⟨b, i * 3, none⟩ = false ∧ isSl v0 = false ∧ w.cell? ⟨b, i * 3 + 1, none⟩ = some v1 ∧ w.frozen? ⟨b, i * 3 + 1, none⟩ = false ∧ isSl v1 = false ∧ w.cell? ⟨b, i * 3 + 2, none⟩ = some v2 ∧ w.frozen? ⟨b, i * 3 + 2, none⟩ = false ∧ isSl v2 = false := by
  obtain ⟨cs, h1, h2⟩ := h.elem hi
  obtain ⟨_, _, n0x, n0y, rfl, e0, ⟨v0, rfl, q0, m0⟩, ⟨_, _, n1x, n1y, rfl, e1, ⟨v1, rfl, q1, m1⟩, ⟨v2, rfl, q2, m2⟩⟩⟩ := h1
  refine ⟨v0, v1, v2, by omega, (h2 0 (by decide)).1, (h2 0 (by decide)).2, q0, (h2 1 (by decide)).1, (h2 1 (by decide)).2, q1, (h2 2 (by decide)).1, (h2 2 (by decide)).2, q2⟩

theorem vwPlanField_size : (vWith vPlanField shPlanField cnPlanField).size = 3 := rfl

set_option maxHeartbeats 1000000 in
theorem toPlanFieldS_sh (ao : Option Addr) (cap : Nat) (l : List DPlanField) (w : World) (hn : wPlanFieldS l ≤ 1048576) (h : SliceAt vPlanField (old w) w ao cap l) :
    Calls Tryz.prog 97 #[.slice ao l.length cap] w fun e w' => ∃ ao' cap', e = .returned (.slice ao' l.length cap') ∧ SliceAt vPlanField (fresh w w') w' ao' cap' l ∧ SlSh shPlanField 120 (fresh w w') w' ao' l.length (cnPlanFieldS l) ∧ Below w.heap.size w w' := by
  have hl : l.length ≤ 1048576 := by unfold wPlanFieldS at hn; omega
  obtain ⟨i0, hi, hz0, hz1, hz2⟩ := info_parts Tryz.info_PlanField
  go_enter Tryz.func97, Tryz.ntmps97
  go_wp2_with (at_make; refine wpList_make_full _ rfl _ _ 65 rfl w.heap.size 120 i0 _ 3 Tryz.underlying65 hi hz0 hz1 _ _ _ _ l.length rfl rfl rfl rfl ?c1 ?c2 ?c3 ?_)
  case c1 => rw [hz2]; omega
  case c2 => unfold maxLen; omega
  case c3 => exact Nat.le_refl _
  intro w1 hown hgr
  have hR0 : RowAt (vWith vPlanField shPlanField cnPlanField) w1 w.heap.size 120 0 l := RowAt.start (A := vWith vPlanField shPlanField cnPlanField) rfl hown
  have hB0 : Below w.heap.size w w1 := (Below.refl _ _).grown hgr (Nat.le_refl _) (by intro k hk; cases hk)
  clear hown hgr hi hz0 hz1 hz2
  go_wp2
  go_loopw [4] (fun i wr => ∃ k : Nat, k ≤ l.length ∧ i = .int .i64 k ∧ Below w.heap.size w wr ∧ RowAt (vWith vPlanField shPlanField cnPlanField) wr w.heap.size 120 k l) (fun i _ => l.length - (intOf i).toNat)
  case atStart => exact ⟨0, Nat.zero_le _, rfl, hB0, hR0⟩
  case round =>
    obtain ⟨k, hk, rfl, hbel, hR⟩ := hrel
    by_cases hlt : k < l.length
    · obtain ⟨b, off, rfl, hok, c0, c1, c2, p0, p1, p2⟩ := elem_PlanField h hlt
      have d0 := (hbel.cell (p := ⟨b, off + k * 3, none⟩) hok).trans c0
      have d1 := (hbel.cell (p := ⟨b, off + k * 3 + 1, none⟩) hok).trans c1
      have d2 := (hbel.cell (p := ⟨b, off + k * 3 + 2, none⟩) hok).trans c2
      clear c0 c1 c2 hR0 hB0
      go_wp2_with fail
      refine (toPlanField_any _ _).mono ?_
      rintro e w2 ⟨rfl, hb2⟩
      have hR2 := hR.later hb2
      have hB2 := hbel.trans (hb2.mono hbel.size)
      have hR3 := hR2.store hlt (c := [.int .i64 l[k].1, .int .i64 l[k].2.1, .string l[k].2.2]) ⟨mk_PlanField p0 p1 p2, hold_PlanField⟩
      have hB3 := put_below w.heap.size w.heap.size (Nat.le_refl _) [.int .i64 l[k].1, .int .i64 l[k].2.1, .string l[k].2.2] _ _ (k * 3) hB2
      obtain ⟨u0, e0⟩ := hR2.cell (i := k * 3) (by rw [vwPlanField_size]; omega)
      obtain ⟨u1, e1⟩ := hR2.cell (i := k * 3 + 1) (by rw [vwPlanField_size]; omega)
      obtain ⟨u2, e2⟩ := hR2.cell (i := k * 3 + 2) (by rw [vwPlanField_size]; omega)
      have f0 := hR2.free (k * 3)
      have f1 := hR2.free (k * 3 + 1)
      have f2 := hR2.free (k * 3 + 2)
      clear hR hR2 hB2 hb2
      go_wp2
      go_roundw
      case rel => exact ⟨k + 1, by omega, by go_num, hB3, hR3⟩
      case measure => simp [intOf]; omega
    · have hk2 : k = l.length := by omega
      subst hk2
      have hS := (hR.done (by unfold maxLen; omega)).bare
      have hSh := hR.shape (by unfold maxLen; omega) rfl
      go_wp2
      go_ret
      exact ⟨_, _, rfl, hS, hSh, hbel⟩

set_option maxRecDepth 100000 in
set_option maxHeartbeats 2000000 in
theorem markPlanFieldS_any (ao : Option Addr) (n cap c : Nat) (k : Int) (lo hi : Nat) (w : World) (h : SlSh shPlanField 120 (fun b => lo ≤ b ∧ b < hi) w ao n c) (hlo : lo ≤ hi) (hhi : hi ≤ w.heap.size) (hk : 0 ≤ k) (hc : k + c ≤ 1099511627776) :
    Calls Tryz.prog 77 #[.slice ao n cap, .int .i64 k] w fun e w' => e = .returned (.int .i64 (k + c)) ∧ Same lo hi w w' := by
  have hm : n ≤ 9223372036854775807 := h.1
  rcases h.2 with ⟨rfl, rfl⟩ | ⟨b, f, rfl, hcf, hR⟩
  · go_enter Tryz.func77, Tryz.ntmps77
    go_wp2
    go_loop [1, 5] (fun a i => a = .int .i64 k ∧ i = .int .i64 0) (fun _ _ => 0)
    case atStart => exact ⟨rfl, rfl⟩
    case round =>
      obtain ⟨rfl, rfl⟩ := hrel
      go_wp2
      go_ret
      exact ⟨by simp, Same.refl _ _ _⟩
  · have hb1 := hR.1.1
    have hb2 := hR.1.2
    have HF : Hid (c = sumTo f n) := hcf
    clear hcf h
    go_enter Tryz.func77, Tryz.ntmps77
    go_wp2
    go_loopw [1, 5] (fun a i wr => ∃ (j : Nat) (q : Int), j ≤ n ∧ i = .int .i64 j ∧ a = .int .i64 q ∧ Hid (q = k + sumTo f j) ∧ Same lo hi w wr) (fun _ i _ => n - (intOf i).toNat)
    case atStart => exact ⟨0, k, Nat.zero_le _, rfl, rfl, by show _ = _; simp [sumTo], Same.refl _ _ _⟩
    case round =>
      obtain ⟨j, q, hj, rfl, rfl, hq, hS⟩ := hrel
      by_cases hlt : j < n
      · have hs1 : sumTo f j + f j ≤ sumTo f n := sumTo_le f (m := j + 1) hlt
        have hq0 : 0 ≤ q := by have := hq.out; omega
        have hq1 : q + f j ≤ 1099511627776 := by have h1 := hq.out; have h2 := HF.out; omega
        have HQ : Hid (q + f j = k + sumTo f (j + 1)) := by have h1 := hq.out; show _ = _; simp only [sumTo]; omega
        have hRw := hR.turn hS (fun _ h => h)
        have hsz := hS.below.size
        clear hs1 hq
        obtain ⟨v0, v1, v2, hf, d0, f0, z0, d1, f1, z1, d2, f2, z2⟩ := elemSh_PlanField hRw hlt
        have HG0 : Hid _ := hf
        clear hf
        have hX1 : Same lo hi w ((wr.setCell ⟨b, j * 3, none⟩ (.int .i64 q)).setCell ⟨b, j * 3 + 1, none⟩ (.int .i64 (q + 1))) := ((hS.set hb1 hb2 d0 z0 rfl).set hb1 hb2 ((set_ne _ _ (by omega)).trans d1) z1 rfl)
        have hXs1 := hX1.below.size
        clear hRw
        go_wp2_with fail
        refine (markText_ex _ _ (by omega) (by have := HG0.out; omega)).mono ?_
        rintro e w1 ⟨t1, rfl, g1⟩
        have hY1 := hX1.trans (Same.ofBelow (lo := lo) (hi := hi) g1 (by omega) (by omega))
        clear d0 f0 z0 d1 f1 z1 d2 f2 z2 hX1 hXs1 g1 hS
        have hRw := hR.turn hY1 (fun _ h => h)
        have hsz := hY1.below.size
        obtain ⟨v0, v1, v2, hf, d0, f0, z0, d1, f1, z1, d2, f2, z2⟩ := elemSh_PlanField hRw hlt
        have HG1 : Hid _ := hf
        clear hf
        have hE : Same lo hi w (w1.setCell ⟨b, j * 3 + 2, none⟩ (.string t1)) := (hY1.set hb1 hb2 d2 z2 rfl)
        clear hRw
        go_wp2
        go_roundw
        case rel => exact ⟨j + 1, q + 1 + 1 + 1, by omega, by go_num, by go_num, by have := HQ.out; have := HG0.out; have := HG1.out; show _ = _; omega, hE⟩
        case measure => simp [intOf]; omega
      · have hje : j = n := by omega
        subst hje
        have HE : Hid (q = k + c) := by have h1 := hq.out; have h2 := HF.out; show _ = _; omega
        clear hq HF
        go_wp2
        go_ret
        exact ⟨by rw [HE.out]; rfl, hS⟩

end Go.Proofs.YtgnjkpmbppmoeaaGreat
