/- DERIVED. By gm.py: the shape of FlyStep; 'to' ends in it; 'mark' over it. -/
import Derived.Test.YtpjacfnjjkoikaaKMk0
import Derived.Test.YtpjacfnjjkoikaaKGVa
namespace Go.Proofs.Ytpjacfnjjkoikaa
open Go.RowKit
set_option linter.unusedSimpArgs false
set_option linter.unusedVariables false

def shFlyStep : Shape := shPair shFlat (shPair shFlat (shPair shFlat (shPair shFlat (shPair shFlat (shPair shFlat shFlat)))))
theorem shFlyStep_size : shFlyStep.size = 7 := rfl
def cnFlyStep (x : DFlyStep) : Nat := 1 + (1 + (1 + (1 + (1 + (1 + 1)))))
def cnFlyStepS (l : List DFlyStep) : Nat := (l.map cnFlyStep).sum
theorem cnFlyStepS_le (l : List DFlyStep) : cnFlyStepS l ≤ 16 * wFlyStepS l := by
  unfold cnFlyStepS wFlyStepS
  exact cnt_flat cnFlyStep (fun x => by unfold cnFlyStep; omega) l

theorem hold_FlyStep {ok : Nat → Prop} {w : World} {x : DFlyStep} : shFlyStep.holds ok w [.int .i64 x.1, .int .i64 x.2.1, .int .i64 x.2.2.1, .int .i64 x.2.2.2.1, .int .i64 x.2.2.2.2.1, .int .i64 x.2.2.2.2.2.1, .bool x.2.2.2.2.2.2] (cnFlyStep x) :=
  ⟨[_], _, _, _, rfl, rfl, ⟨_, rfl, rfl, rfl⟩, ⟨[_], _, _, _, rfl, rfl, ⟨_, rfl, rfl, rfl⟩, ⟨[_], _, _, _, rfl, rfl, ⟨_, rfl, rfl, rfl⟩, ⟨[_], _, _, _, rfl, rfl, ⟨_, rfl, rfl, rfl⟩, ⟨[_], _, _, _, rfl, rfl, ⟨_, rfl, rfl, rfl⟩, ⟨[_], _, _, _, rfl, rfl, ⟨_, rfl, rfl, rfl⟩, ⟨_, rfl, rfl, rfl⟩⟩⟩⟩⟩⟩⟩

theorem elemSh_FlyStep {t : TypeId} {ok : Nat → Prop} {w : World} {b n : Nat} {f : Nat → Nat} (h : RowSh shFlyStep t ok w b n f) {i : Nat} (hi : i < n) :
    ∃ (v0 : Value) (v1 : Value) (v2 : Value) (v3 : Value) (v4 : Value) (v5 : Value) (v6 : Value), f i = 1 + (1 + (1 + (1 + (1 + (1 + 1))))) ∧ w.cell? ⟨b, i * 7, none⟩ = some v0 ∧ w.frozen? ⟨b, i * 7, none⟩ = false ∧ isSl v0 = false ∧ w.cell? ⟨b, i * 7 + 1, none⟩ = some v1 ∧ w.frozen? ⟨b, i * 7 + 1, none⟩ = false ∧ isSl v1 = false ∧ w.cell? ⟨b, i * 7 + 2, none⟩ = some v2 ∧ w.frozen? ⟨b, i * 7 + 2, none⟩ = false ∧ isSl v2 = false ∧ w.cell? ⟨b, i * 7 + 3, none⟩ = some v3 ∧ w.frozen? ⟨b, i * 7 + 3, none⟩ = false ∧ isSl v3 = false ∧ w.cell? ⟨b, i * 7 + 4, none⟩ = some v4 ∧ w.frozen? ⟨b, i * 7 + 4, none⟩ = false ∧ isSl v4 = false ∧ w.cell? ⟨b, i * 7 + 5, none⟩ = some v5 ∧ w.frozen? ⟨b, i * 7 + 5, none⟩ = false ∧ isSl v5 = false ∧ w.cell? ⟨b, i * 7 + 6, none⟩ = some v6 ∧ w.frozen? ⟨b, i * 7 + 6, none⟩ = false ∧ isSl v6 = false := by
  obtain ⟨cs, h1, h2⟩ := h.elem hi
  obtain ⟨_, _, n0x, n0y, rfl, e0, ⟨v0, rfl, q0, m0⟩, ⟨_, _, n1x, n1y, rfl, e1, ⟨v1, rfl, q1, m1⟩, ⟨_, _, n2x, n2y, rfl, e2, ⟨v2, rfl, q2, m2⟩, ⟨_, _, n3x, n3y, rfl, e3, ⟨v3, rfl, q3, m3⟩, ⟨_, _, n4x, n4y, rfl, e4, ⟨v4, rfl, q4, m4⟩, ⟨_, _, n5x, n5y, rfl, e5, ⟨v5, rfl, q5, m5⟩, ⟨v6, rfl, q6, m6⟩⟩⟩⟩⟩⟩⟩ := h1
  refine ⟨v0, v1, v2, v3, v4, v5, v6, by omega, (h2 0 (by decide)).1, (h2 0 (by decide)).2, q0, (h2 1 (by decide)).1, (h2 1 (by decide)).2, q1, (h2 2 (by decide)).1, (h2 2 (by decide)).2, q2, (h2 3 (by decide)).1, (h2 3 (by decide)).2, q3, (h2 4 (by decide)).1, (h2 4 (by decide)).2, q4, (h2 5 (by decide)).1, (h2 5 (by decide)).2, q5, (h2 6 (by decide)).1, (h2 6 (by decide)).2, q6⟩

theorem vwFlyStep_size : (vWith vFlyStep shFlyStep cnFlyStep).size = 7 := rfl

set_option maxHeartbeats 1000000 in
theorem toFlyStepS_sh (ao : Option Addr) (cap : Nat) (l : List DFlyStep) (w : World) (hn : wFlyStepS l ≤ 1048576) (h : SliceAt vFlyStep (old w) w ao cap l) :
    Calls Try.prog 40 #[.slice ao l.length cap] w fun e w' => ∃ ao' cap', e = .returned (.slice ao' l.length cap') ∧ SliceAt vFlyStep (fresh w w') w' ao' cap' l ∧ SlSh shFlyStep 76 (fresh w w') w' ao' l.length (cnFlyStepS l) ∧ Below w.heap.size w w' := by
  have hl : l.length ≤ 1048576 := by unfold wFlyStepS at hn; omega
  obtain ⟨i0, hi, hz0, hz1, hz2⟩ := info_parts Try.info_FlyStep
  go_enter Try.func40, Try.ntmps40
  go_wp2_with (at_make; refine wpList_make_full _ rfl _ _ 32 rfl w.heap.size 76 i0 _ 7 Try.underlying32 hi hz0 hz1 _ _ _ _ l.length rfl rfl rfl rfl ?c1 ?c2 ?c3 ?_)
  case c1 => rw [hz2]; omega
  case c2 => unfold maxLen; omega
  case c3 => exact Nat.le_refl _
  intro w1 hown hgr
  have hR0 : RowAt (vWith vFlyStep shFlyStep cnFlyStep) w1 w.heap.size 76 0 l := RowAt.start (A := vWith vFlyStep shFlyStep cnFlyStep) rfl hown
  have hB0 : Below w.heap.size w w1 := (Below.refl _ _).grown hgr (Nat.le_refl _) (by intro k hk; cases hk)
  clear hown hgr hi hz0 hz1 hz2
  go_wp2
  go_loopw [4] (fun i wr => ∃ k : Nat, k ≤ l.length ∧ i = .int .i64 k ∧ Below w.heap.size w wr ∧ RowAt (vWith vFlyStep shFlyStep cnFlyStep) wr w.heap.size 76 k l) (fun i _ => l.length - (intOf i).toNat)
  case atStart => exact ⟨0, Nat.zero_le _, rfl, hB0, hR0⟩
  case round =>
    obtain ⟨k, hk, rfl, hbel, hR⟩ := hrel
    by_cases hlt : k < l.length
    · obtain ⟨b, off, rfl, hok, c0, c1, c2, c3, c4, c5, c6, p0, p1, p2, p3, p4, p5⟩ := elem_FlyStep h hlt
      have d0 := (hbel.cell (p := ⟨b, off + k * 7, none⟩) hok).trans c0
      have d1 := (hbel.cell (p := ⟨b, off + k * 7 + 1, none⟩) hok).trans c1
      have d2 := (hbel.cell (p := ⟨b, off + k * 7 + 2, none⟩) hok).trans c2
      have d3 := (hbel.cell (p := ⟨b, off + k * 7 + 3, none⟩) hok).trans c3
      have d4 := (hbel.cell (p := ⟨b, off + k * 7 + 4, none⟩) hok).trans c4
      have d5 := (hbel.cell (p := ⟨b, off + k * 7 + 5, none⟩) hok).trans c5
      have d6 := (hbel.cell (p := ⟨b, off + k * 7 + 6, none⟩) hok).trans c6
      clear c0 c1 c2 c3 c4 c5 c6 hR0 hB0
      go_wp2_with fail
      refine (toFlyStep_any _ _).mono ?_
      rintro e w2 ⟨rfl, hb2⟩
      have hR2 := hR.later hb2
      have hB2 := hbel.trans (hb2.mono hbel.size)
      have hR3 := hR2.store hlt (c := [.int .i64 l[k].1, .int .i64 l[k].2.1, .int .i64 l[k].2.2.1, .int .i64 l[k].2.2.2.1, .int .i64 l[k].2.2.2.2.1, .int .i64 l[k].2.2.2.2.2.1, .bool l[k].2.2.2.2.2.2]) ⟨mk_FlyStep p0 p1 p2 p3 p4 p5, hold_FlyStep⟩
      have hB3 := put_below w.heap.size w.heap.size (Nat.le_refl _) [.int .i64 l[k].1, .int .i64 l[k].2.1, .int .i64 l[k].2.2.1, .int .i64 l[k].2.2.2.1, .int .i64 l[k].2.2.2.2.1, .int .i64 l[k].2.2.2.2.2.1, .bool l[k].2.2.2.2.2.2] _ _ (k * 7) hB2
      obtain ⟨u0, e0⟩ := hR2.cell (i := k * 7) (by rw [vwFlyStep_size]; omega)
      obtain ⟨u1, e1⟩ := hR2.cell (i := k * 7 + 1) (by rw [vwFlyStep_size]; omega)
      obtain ⟨u2, e2⟩ := hR2.cell (i := k * 7 + 2) (by rw [vwFlyStep_size]; omega)
      obtain ⟨u3, e3⟩ := hR2.cell (i := k * 7 + 3) (by rw [vwFlyStep_size]; omega)
      obtain ⟨u4, e4⟩ := hR2.cell (i := k * 7 + 4) (by rw [vwFlyStep_size]; omega)
      obtain ⟨u5, e5⟩ := hR2.cell (i := k * 7 + 5) (by rw [vwFlyStep_size]; omega)
      obtain ⟨u6, e6⟩ := hR2.cell (i := k * 7 + 6) (by rw [vwFlyStep_size]; omega)
      have f0 := hR2.free (k * 7)
      have f1 := hR2.free (k * 7 + 1)
      have f2 := hR2.free (k * 7 + 2)
      have f3 := hR2.free (k * 7 + 3)
      have f4 := hR2.free (k * 7 + 4)
      have f5 := hR2.free (k * 7 + 5)
      have f6 := hR2.free (k * 7 + 6)
      clear hR hR2 hB2 hb2
      go_wp2
      go_roundw
      case rel => exact ⟨k + 1, by omega, by go_num, hB3, hR3⟩
      case measure => simp [intOf]; omega
    · have hk2 : k = l.length := by omega
      subst hk2
      have hS := (hR.done (by unfold maxLen; omega)).bare
      have hSh := hR.shape (by unfold maxLen; omega) rfl
      go_wp2
      go_ret
      exact ⟨_, _, rfl, hS, hSh, hbel⟩

set_option maxRecDepth 100000 in
set_option maxHeartbeats 2000000 in
theorem markFlyStepS_any (ao : Option Addr) (n cap c : Nat) (k : Int) (lo hi : Nat) (w : World) (h : SlSh shFlyStep 76 (fun b => lo ≤ b ∧ b < hi) w ao n c) (hlo : lo ≤ hi) (hhi : hi ≤ w.heap.size) (hk : 0 ≤ k) (hc : k + c ≤ 1099511627776) :
    Calls Try.prog 53 #[.slice ao n cap, .int .i64 k] w fun e w' => e = .returned (.int .i64 (k + c)) ∧ Same lo hi w w' := by
  have hm : n ≤ 9223372036854775807 := h.1
  rcases h.2 with ⟨rfl, rfl⟩ | ⟨b, f, rfl, hcf, hR⟩
  · go_enter Try.func53, Try.ntmps53
    go_wp2
    go_loop [1, 5] (fun a i => a = .int .i64 k ∧ i = .int .i64 0) (fun _ _ => 0)
    case atStart => exact ⟨rfl, rfl⟩
    case round =>
      obtain ⟨rfl, rfl⟩ := hrel
      go_wp2
      go_ret
      exact ⟨by simp, Same.refl _ _ _⟩
  · have hb1 := hR.1.1
    have hb2 := hR.1.2
    have HF : Hid (c = sumTo f n) := hcf
    clear hcf h
    go_enter Try.func53, Try.ntmps53
    go_wp2
    go_loopw [1, 5] (fun a i wr => ∃ (j : Nat) (q : Int), j ≤ n ∧ i = .int .i64 j ∧ a = .int .i64 q ∧ Hid (q = k + sumTo f j) ∧ Same lo hi w wr) (fun _ i _ => n - (intOf i).toNat)
    case atStart => exact ⟨0, k, Nat.zero_le _, rfl, rfl, by show _ = _; simp [sumTo], Same.refl _ _ _⟩
    case round =>
      obtain ⟨j, q, hj, rfl, rfl, hq, hS⟩ := hrel
      by_cases hlt : j < n
      · have hs1 : sumTo f j + f j ≤ sumTo f n := sumTo_le f (m := j + 1) hlt
        have hq0 : 0 ≤ q := by have := hq.out; omega
        have hq1 : q + f j ≤ 1099511627776 := by have h1 := hq.out; have h2 := HF.out; omega
        have HQ : Hid (q + f j = k + sumTo f (j + 1)) := by have h1 := hq.out; show _ = _; simp only [sumTo]; omega
        have hRw := hR.turn hS (fun _ h => h)
        have hsz := hS.below.size
        clear hs1 hq
        obtain ⟨v0, v1, v2, v3, v4, v5, v6, hf, d0, f0, z0, d1, f1, z1, d2, f2, z2, d3, f3, z3, d4, f4, z4, d5, f5, z5, d6, f6, z6⟩ := elemSh_FlyStep hRw hlt
        have HG0 : Hid _ := hf
        clear hf
        have hE : ∀ bv : Bool, Same lo hi w (((((((wr.setCell ⟨b, j * 7, none⟩ (.int .i64 q)).setCell ⟨b, j * 7 + 1, none⟩ (.int .i64 (q + 1))).setCell ⟨b, j * 7 + 2, none⟩ (.int .i64 (q + 1 + 1))).setCell ⟨b, j * 7 + 3, none⟩ (.int .i64 (q + 1 + 1 + 1))).setCell ⟨b, j * 7 + 4, none⟩ (.int .i64 (q + 1 + 1 + 1 + 1))).setCell ⟨b, j * 7 + 5, none⟩ (.int .i64 (q + 1 + 1 + 1 + 1 + 1))).setCell ⟨b, j * 7 + 6, none⟩ (.bool bv)) := fun bv => (((((((hS.set hb1 hb2 d0 z0 rfl).set hb1 hb2 ((set_ne _ _ (by omega)).trans d1) z1 rfl).set hb1 hb2 ((set_ne _ _ (by omega)).trans ((set_ne _ _ (by omega)).trans d2)) z2 rfl).set hb1 hb2 ((set_ne _ _ (by omega)).trans ((set_ne _ _ (by omega)).trans ((set_ne _ _ (by omega)).trans d3))) z3 rfl).set hb1 hb2 ((set_ne _ _ (by omega)).trans ((set_ne _ _ (by omega)).trans ((set_ne _ _ (by omega)).trans ((set_ne _ _ (by omega)).trans d4)))) z4 rfl).set hb1 hb2 ((set_ne _ _ (by omega)).trans ((set_ne _ _ (by omega)).trans ((set_ne _ _ (by omega)).trans ((set_ne _ _ (by omega)).trans ((set_ne _ _ (by omega)).trans d5))))) z5 rfl).set hb1 hb2 ((set_ne _ _ (by omega)).trans ((set_ne _ _ (by omega)).trans ((set_ne _ _ (by omega)).trans ((set_ne _ _ (by omega)).trans ((set_ne _ _ (by omega)).trans ((set_ne _ _ (by omega)).trans d6)))))) z6 rfl)
        clear hRw
        go_wp2
        go_roundw
        case rel => exact ⟨j + 1, q + 1 + 1 + 1 + 1 + 1 + 1 + 1, by omega, by go_num, by go_num, by have := HQ.out; have := HG0.out; show _ = _; omega, hE _⟩
        case measure => simp [intOf]; omega
      · have hje : j = n := by omega
        subst hje
        have HE : Hid (q = k + c) := by have h1 := hq.out; have h2 := HF.out; show _ = _; omega
        clear hq HF
        go_wp2
        go_ret
        exact ⟨by rw [HE.out]; rfl, hS⟩

end Go.Proofs.Ytpjacfnjjkoikaa

/- DERIVED. By gm.py: the shape of FlyPath; 'to' ends in it; 'mark' over it. -/
namespace Go.Proofs.Ytpjacfnjjkoikaa
open Go.RowKit
set_option linter.unusedSimpArgs false
set_option linter.unusedVariables false

set_option maxHeartbeats 1000000 in
theorem toFlyPath_sh (x : DFlyPath) (ao2 : Option Addr) (cap2 : Nat) (w : World) (p2 : SliceAt vFlyStep (old w) w ao2 cap2 x.2.1) (hn : wFlyPath x ≤ 1048576) :
    Calls Try.prog 11 #[.agg #[.int .i64 x.1.1, .int .i64 x.1.2, .slice ao2 x.2.1.length cap2, .int .i64 x.2.2.1, .int .i64 x.2.2.2]] w fun e w' => ∃ ao2' cap2', e = .returned (.agg #[.int .i64 x.1.1, .int .i64 x.1.2, .slice ao2' x.2.1.length cap2', .int .i64 x.2.2.1, .int .i64 x.2.2.2]) ∧ (SliceAt vFlyStep (fresh w w') w' ao2' cap2' x.2.1 ∧ SlSh shFlyStep 76 (fresh w w') w' ao2' x.2.1.length (cnFlyStepS x.2.1)) ∧ Below w.heap.size w w' := by
  have s2 : wFlyStepS x.2.1 ≤ 1048576 := by unfold wFlyPath at hn; omega
  clear hn
  go_enter Try.func11, Try.ntmps11
  go_wp2_with fail
  have b0 : Below w.heap.size w (((w.alloc (.cells #[.int .i64 x.1.1, .int .i64 x.1.2, .slice ao2 x.2.1.length cap2, .int .i64 x.2.2.1, .int .i64 x.2.2.2] 26)).alloc (.cells #[.int .i64 0, .int .i64 0, .slice none 0 0, .int .i64 0, .int .i64 0] 34)).alloc (.cells #[.int .i64 0, .int .i64 0, .slice none 0 0, .int .i64 0, .int .i64 0] 34)) := (((Below.refl w.heap.size w).alloc (Nat.le_refl _) _).alloc (by simp) _).alloc (by simp; try omega) _
  refine (toFlyKind_any x.1 _).mono ?_
  rintro e w0 ⟨rfl, g0⟩
  have b0' := b0.trans (g0.mono b0.size)
  obtain ⟨hc0, hf0⟩ := bcell g0
  have z0 := g0.size
  try simp at z0 hc0 hf0
  have y00 : w.heap.size < w0.heap.size := by omega
  have y01 : w.heap.size + 1 < w0.heap.size := by omega
  have y02 : w.heap.size + 1 + 1 < w0.heap.size := by omega
  go_wp2_with fail
  have b2 : Below w.heap.size w ((w0.setCell ⟨w.heap.size + 1 + 1, 0, none⟩ (.int .i64 x.1.1)).setCell ⟨w.heap.size + 1 + 1, 1, none⟩ (.int .i64 x.1.2)) := ((b0'.setCell (p := ⟨w.heap.size + 1 + 1, 0, none⟩) (by simp; try omega) _).setCell (p := ⟨w.heap.size + 1 + 1, 1, none⟩) (by simp; try omega) _)
  refine (toFlyStepS_sh ao2 cap2 x.2.1 _ s2 (p2.later b2)).mono ?_
  rintro e w2 ⟨ao2', cap2', rfl, q2, r2, g2⟩
  have b2' := b2.trans (g2.mono b2.size)
  obtain ⟨hc2, hf2⟩ := bcell g2
  have z2 := g2.size
  try simp at z2 hc2 hf2
  have y20 : w.heap.size < w2.heap.size := by omega
  have y21 : w.heap.size + 1 < w2.heap.size := by omega
  have y22 : w.heap.size + 1 + 1 < w2.heap.size := by omega
  go_wp2
  refine bodyPost_ret (v := .agg #[.int .i64 x.1.1, .int .i64 x.1.2, .slice ao2' x.2.1.length cap2', .int .i64 x.2.2.1, .int .i64 x.2.2.2]) (by simp [results, Try.results11, go_sem, hc0, hf0, y00, y01, y02, hc2, hf2, y20, y21, y22]) rfl ⟨ao2', cap2', rfl, ?_, ?_⟩
  · refine ⟨SliceAt.mono (q2.stays ?_) ?_, SlSh.mono (r2.stays ?_) ?_⟩
    · intro b hb
      have hb1 := hb.1
      have hb2 := hb.2
      simp at hb1 hb2
      have hne1 : b ≠ w.heap.size + 1 := by omega
      have hne2 : b ≠ w.heap.size + 1 + 1 := by omega
      simp [Below.heap_setCell, hne1, hne2]
    · intro b hb
      have hb1 := hb.1
      have hb2 := hb.2
      simp at hb1 hb2
      exact ⟨by omega, by simp; omega⟩
    · intro b hb
      have hb1 := hb.1
      have hb2 := hb.2
      simp at hb1 hb2
      have hne1 : b ≠ w.heap.size + 1 := by omega
      have hne2 : b ≠ w.heap.size + 1 + 1 := by omega
      simp [Below.heap_setCell, hne1, hne2]
    · intro b hb
      have hb1 := hb.1
      have hb2 := hb.2
      simp at hb1 hb2
      exact ⟨by omega, by simp; omega⟩
  · repeat (first | refine Below.setCell ?_ (by simp; try omega) _ | exact b2')

set_option maxRecDepth 100000 in
set_option maxHeartbeats 1000000 in
theorem markFlyPath_any (u0 : Value) (u1 : Value) (u3 : Value) (u4 : Value) (ao2 : Option Addr) (n2 cap2 c2 : Nat) (k : Int) (lo hi : Nat) (w : World) (q2 : SlSh shFlyStep 76 (fun b => lo ≤ b ∧ b < hi) w ao2 n2 c2) (hlo : lo ≤ hi) (hhi : hi ≤ w.heap.size) (hk : 0 ≤ k) (hc : k + (c2 : Nat) ≤ 1099511627776) :
    Calls Try.prog 15 #[.agg #[u0, u1, .slice ao2 n2 cap2, u3, u4], .int .i64 k] w fun e w' => e = .returned (.int .i64 (k + (c2 : Nat))) ∧ Same lo hi w w' := by
  have hB0 : Below w.heap.size w (w.alloc (.cells #[u0, u1, .slice ao2 n2 cap2, u3, u4] 34)) := (Below.refl _ _).alloc (Nat.le_refl _) _
  have hY0 : Same lo hi w (w.alloc (.cells #[u0, u1, .slice ao2 n2 cap2, u3, u4] 34)) := Same.ofBelow hB0 (by omega) hhi
  have hs0 : hi < (w.alloc (.cells #[u0, u1, .slice ao2 n2 cap2, u3, u4] 34)).heap.size := by simp; omega
  have e2 : (w.alloc (.cells #[u0, u1, .slice ao2 n2 cap2, u3, u4] 34)).heap[w.heap.size]? = some (.cells #[u0, u1, .slice ao2 n2 cap2, u3, u4] 34 (0, 0)) := heap_alloc_new _ _
  go_enter Try.func15, Try.ntmps15
  have hT2 := q2.turn hY0 (fun _ h => h)
  go_wp2_with fail
  refine (markFlyStepS_any _ _ _ c2 _ lo hi _ hT2 hlo (by omega) (by omega) (by omega)).mono ?_
  rintro e w2 ⟨rfl, g2⟩
  have hY3 := hY0.trans g2
  have x2 := (g2.above w.heap.size hhi (by first | omega | (simp; done))).trans e2
  have hs3 : hi < w2.heap.size := by have := g2.below.size; omega
  have ws2 : w.heap.size < w2.heap.size := by have := g2.below.size; first | omega | (simp at this; omega)
  clear g2 hT2
  have HE : Hid (k + (c2 : Int) = k + ((c2 : Nat) : Int)) := by show _ = _; omega
  go_wp2
  go_ret
  exact ⟨by first | (rw [← HE.out]; rfl) | rfl, hY3⟩

end Go.Proofs.Ytpjacfnjjkoikaa
