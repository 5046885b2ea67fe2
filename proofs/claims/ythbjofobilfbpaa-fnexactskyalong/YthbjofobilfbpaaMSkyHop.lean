/- DERIVED. By gm.py: the shape of SkyHop; 'to' ends in it; 'mark' over it. -/
import Derived.Test.YthbjofobilfbpaaMk1
import Derived.Test.YthbjofobilfbpaaVSkyHop
namespace Go.Proofs.Ythbjofobilfbpaa
open Go.RowKit
set_option linter.unusedSimpArgs false
set_option linter.unusedVariables false

def shSkyHop : Shape := shPair shFlat (shPair shFlat (shPair shFlat shFlat))
theorem shSkyHop_size : shSkyHop.size = 4 := rfl
def cnSkyHop (x : DSkyHop) : Nat := 1 + (1 + (1 + 1))
def cnSkyHopS (l : List DSkyHop) : Nat := (l.map cnSkyHop).sum
theorem cnSkyHopS_le (l : List DSkyHop) : cnSkyHopS l ≤ 16 * wSkyHopS l := by
  unfold cnSkyHopS wSkyHopS
  refine cnt_sum cnSkyHop wSkyHop (fun x => ?_) l
  unfold cnSkyHop wSkyHop
  omega

theorem hold_SkyHop {ok : Nat → Prop} {w : World} {x : DSkyHop} : shSkyHop.holds ok w [.string x.1, .string x.2.1, .int .i64 x.2.2.1, .string x.2.2.2] (cnSkyHop x) :=
  ⟨[_], _, _, _, rfl, rfl, ⟨_, rfl, rfl, rfl⟩, ⟨[_], _, _, _, rfl, rfl, ⟨_, rfl, rfl, rfl⟩, ⟨[_], _, _, _, rfl, rfl, ⟨_, rfl, rfl, rfl⟩, ⟨_, rfl, rfl, rfl⟩⟩⟩⟩

theorem elemSh_SkyHop {t : TypeId} {ok : Nat → Prop} {w : World} {b n : Nat} {f : Nat → Nat} (h : RowSh shSkyHop t ok w b n f) {i : Nat} (hi : i < n) :
    ∃ (v0 : Value) (v1 : Value) (v2 : Value) (v3 : Value), f i = 1 + (1 + (1 + 1)) ∧ w.cell? ⟨b, i * 4, none⟩ = some v0 ∧ w.frozen? ⟨b, i * 4, none⟩ = false ∧ isSl v0 = false ∧ w.cell? ⟨b, i * 4 + 1, none⟩ = some v1 ∧ w.frozen? ⟨b, i * 4 + 1, none⟩ = false ∧ isSl v1 = false ∧ w.cell? ⟨b, i * 4 + 2, none⟩ = some v2 ∧ w.frozen? ⟨b, i * 4 + 2, none⟩ = false ∧ isSl v2 = false ∧ w.cell? ⟨b, i * 4 + 3, none⟩ = some v3 ∧ w.frozen? ⟨b, i * 4 + 3, none⟩ = false ∧ isSl v3 = false := by
  obtain ⟨cs, h1, h2⟩ := h.elem hi
  obtain ⟨_, _, n0x, n0y, rfl, e0, ⟨v0, rfl, q0, m0⟩, ⟨_, _, n1x, n1y, rfl, e1, ⟨v1, rfl, q1, m1⟩, ⟨_, _, n2x, n2y, rfl, e2, ⟨v2, rfl, q2, m2⟩, ⟨v3, rfl, q3, m3⟩⟩⟩⟩ := h1
  refine ⟨v0, v1, v2, v3, by omega, (h2 0 (by decide)).1, (h2 0 (by decide)).2, q0, (h2 1 (by decide)).1, (h2 1 (by decide)).2, q1, (h2 2 (by decide)).1, (h2 2 (by decide)).2, q2, (h2 3 (by decide)).1, (h2 3 (by decide)).2, q3⟩

theorem vwSkyHop_size : (vWith vSkyHop shSkyHop cnSkyHop).size = 4 := rfl

set_option maxHeartbeats 1000000 in
theorem toSkyHopS_sh (ao : Option Addr) (cap : Nat) (l : List DSkyHop) (w : World) (hn : wSkyHopS l ≤ 1048576) (h : SliceAt vSkyHop (old w) w ao cap l) :
    Calls Try.prog 21 #[.slice ao l.length cap] w fun e w' => ∃ ao' cap', e = .returned (.slice ao' l.length cap') ∧ SliceAt vSkyHop (fresh w w') w' ao' cap' l ∧ SlSh shSkyHop 60 (fresh w w') w' ao' l.length (cnSkyHopS l) ∧ Below w.heap.size w w' := by
  have hl : l.length ≤ 1048576 := by unfold wSkyHopS at hn; omega
  obtain ⟨i0, hi, hz0, hz1, hz2⟩ := info_parts Try.info_SkyHop
  go_enter Try.func21, Try.ntmps21
  go_wp2_with (at_make; refine wpList_make_full _ rfl _ _ 32 rfl w.heap.size 60 i0 _ 4 Try.underlying32 hi hz0 hz1 _ _ _ _ l.length rfl rfl rfl rfl ?c1 ?c2 ?c3 ?_)
  case c1 => rw [hz2]; omega
  case c2 => unfold maxLen; omega
  case c3 => exact Nat.le_refl _
  intro w1 hown hgr
  have hR0 : RowAt (vWith vSkyHop shSkyHop cnSkyHop) w1 w.heap.size 60 0 l := RowAt.start (A := vWith vSkyHop shSkyHop cnSkyHop) rfl hown
  have hB0 : Below w.heap.size w w1 := (Below.refl _ _).grown hgr (Nat.le_refl _) (by intro k hk; cases hk)
  clear hown hgr hi hz0 hz1 hz2
  go_wp2
  go_loopw [4] (fun i wr => ∃ k : Nat, k ≤ l.length ∧ i = .int .i64 k ∧ Below w.heap.size w wr ∧ RowAt (vWith vSkyHop shSkyHop cnSkyHop) wr w.heap.size 60 k l) (fun i _ => l.length - (intOf i).toNat)
  case atStart => exact ⟨0, Nat.zero_le _, rfl, hB0, hR0⟩
  case round =>
    obtain ⟨k, hk, rfl, hbel, hR⟩ := hrel
    by_cases hlt : k < l.length
    · obtain ⟨b, off, rfl, hok, c0, c1, c2, c3, p0, p1, p2, p3⟩ := elem_SkyHop h hlt
      have d0 := (hbel.cell (p := ⟨b, off + k * 4, none⟩) hok).trans c0
      have d1 := (hbel.cell (p := ⟨b, off + k * 4 + 1, none⟩) hok).trans c1
      have d2 := (hbel.cell (p := ⟨b, off + k * 4 + 2, none⟩) hok).trans c2
      have d3 := (hbel.cell (p := ⟨b, off + k * 4 + 3, none⟩) hok).trans c3
      clear c0 c1 c2 c3 hR0 hB0
      go_wp2_with fail
      refine (toSkyHop_any _ _).mono ?_
      rintro e w2 ⟨rfl, hb2⟩
      have hR2 := hR.later hb2
      have hB2 := hbel.trans (hb2.mono hbel.size)
      have hR3 := hR2.store hlt (c := [.string l[k].1, .string l[k].2.1, .int .i64 l[k].2.2.1, .string l[k].2.2.2]) ⟨mk_SkyHop p0 p1 p2 p3, hold_SkyHop⟩
      have hB3 := put_below w.heap.size w.heap.size (Nat.le_refl _) [.string l[k].1, .string l[k].2.1, .int .i64 l[k].2.2.1, .string l[k].2.2.2] _ _ (k * 4) hB2
      obtain ⟨u0, e0⟩ := hR2.cell (i := k * 4) (by rw [vwSkyHop_size]; omega)
      obtain ⟨u1, e1⟩ := hR2.cell (i := k * 4 + 1) (by rw [vwSkyHop_size]; omega)
      obtain ⟨u2, e2⟩ := hR2.cell (i := k * 4 + 2) (by rw [vwSkyHop_size]; omega)
      obtain ⟨u3, e3⟩ := hR2.cell (i := k * 4 + 3) (by rw [vwSkyHop_size]; omega)
      have f0 := hR2.free (k * 4)
      have f1 := hR2.free (k * 4 + 1)
      have f2 := hR2.free (k * 4 + 2)
      have f3 := hR2.free (k * 4 + 3)
      clear hR hR2 hB2 hb2
      go_wp2
      go_roundw
      case rel => exact ⟨k + 1, by omega, by go_num, hB3, hR3⟩
      case measure => simp [intOf]; omega
    · have hk2 : k = l.length := by omega
      subst hk2
      have hS := (hR.done (by unfold maxLen; omega)).bare
      have hSh := hR.shape (by unfold maxLen; omega) rfl
      go_wp2
      go_ret
      exact ⟨_, _, rfl, hS, hSh, hbel⟩

set_option maxRecDepth 100000 in
set_option maxHeartbeats 2000000 in
theorem markSkyHopS_any (ao : Option Addr) (n cap c : Nat) (k : Int) (lo hi : Nat) (w : World) (h : SlSh shSkyHop 60 (fun b => lo ≤ b ∧ b < hi) w ao n c) (hlo : lo ≤ hi) (hhi : hi ≤ w.heap.size) (hk : 0 ≤ k) (hc : k + c ≤ 1099511627776) :
    Calls Try.prog 28 #[.slice ao n cap, .int .i64 k] w fun e w' => e = .returned (.int .i64 (k + c)) ∧ Same lo hi w w' := by
  have hm : n ≤ 9223372036854775807 := h.1
  rcases h.2 with ⟨rfl, rfl⟩ | ⟨b, f, rfl, hcf, hR⟩
  · go_enter Try.func28, Try.ntmps28
    go_wp2
    go_loop [1, 5] (fun a i => a = .int .i64 k ∧ i = .int .i64 0) (fun _ _ => 0)
    case atStart => exact ⟨rfl, rfl⟩
    case round =>
      obtain ⟨rfl, rfl⟩ := hrel
      go_wp2
      go_ret
      exact ⟨by simp, Same.refl _ _ _⟩
  · have hb1 := hR.1.1
    have hb2 := hR.1.2
    have HF : Hid (c = sumTo f n) := hcf
    clear hcf h
    go_enter Try.func28, Try.ntmps28
    go_wp2
    go_loopw [1, 5] (fun a i wr => ∃ (j : Nat) (q : Int), j ≤ n ∧ i = .int .i64 j ∧ a = .int .i64 q ∧ Hid (q = k + sumTo f j) ∧ Same lo hi w wr) (fun _ i _ => n - (intOf i).toNat)
    case atStart => exact ⟨0, k, Nat.zero_le _, rfl, rfl, by show _ = _; simp [sumTo], Same.refl _ _ _⟩
    case round =>
      obtain ⟨j, q, hj, rfl, rfl, hq, hS⟩ := hrel
      by_cases hlt : j < n
      · have hs1 : sumTo f j + f j ≤ sumTo f n := sumTo_le f (m := j + 1) hlt
        have hq0 : 0 ≤ q := by have := hq.out; omega
        have hq1 : q + f j ≤ 1099511627776 := by have h1 := hq.out; have h2 := HF.out; omega
        have HQ : Hid (q + f j = k + sumTo f (j + 1)) := by have h1 := hq.out; show _ = _; simp only [sumTo]; omega
        have hRw := hR.turn hS (fun _ h => h)
        have hsz := hS.below.size
        clear hs1 hq
        obtain ⟨v0, v1, v2, v3, hf, d0, f0, z0, d1, f1, z1, d2, f2, z2, d3, f3, z3⟩ := elemSh_SkyHop hRw hlt
        rw [hf] at hq1 HQ
        clear hf
        have hX1 : Same lo hi w wr := hS
        have hXs1 := hX1.below.size
        clear hRw
        go_wp2_with fail
        refine (markText_ex _ _ (by omega) (by omega)).mono ?_
        rintro e w1 ⟨t1, rfl, g1⟩
        have hY1 := hX1.trans (Same.ofBelow (lo := lo) (hi := hi) g1 (by omega) (by omega))
        clear d0 f0 z0 d1 f1 z1 d2 f2 z2 d3 f3 z3 hX1 hXs1 g1 hS
        have hRw := hR.turn hY1 (fun _ h => h)
        have hsz := hY1.below.size
        obtain ⟨v0, v1, v2, v3, hf, d0, f0, z0, d1, f1, z1, d2, f2, z2, d3, f3, z3⟩ := elemSh_SkyHop hRw hlt
        clear hf
        have hX2 : Same lo hi w (w1.setCell ⟨b, j * 4, none⟩ (.string t1)) := (hY1.set hb1 hb2 d0 z0 rfl)
        have hXs2 := hX2.below.size
        clear hRw
        go_wp2_with fail
        refine (markText_ex _ _ (by omega) (by omega)).mono ?_
        rintro e w2 ⟨t2, rfl, g2⟩
        have hY2 := hX2.trans (Same.ofBelow (lo := lo) (hi := hi) g2 (by omega) (by omega))
        clear d0 f0 z0 d1 f1 z1 d2 f2 z2 d3 f3 z3 hX2 hXs2 g2 hY1
        have hRw := hR.turn hY2 (fun _ h => h)
        have hsz := hY2.below.size
        obtain ⟨v0, v1, v2, v3, hf, d0, f0, z0, d1, f1, z1, d2, f2, z2, d3, f3, z3⟩ := elemSh_SkyHop hRw hlt
        clear hf
        have hX3 : Same lo hi w ((w2.setCell ⟨b, j * 4 + 1, none⟩ (.string t2)).setCell ⟨b, j * 4 + 2, none⟩ (.int .i64 (q + 1 + 1))) := ((hY2.set hb1 hb2 d1 z1 rfl).set hb1 hb2 ((set_ne _ _ (by omega)).trans d2) z2 rfl)
        have hXs3 := hX3.below.size
        clear hRw
        go_wp2_with fail
        refine (markText_ex _ _ (by omega) (by omega)).mono ?_
        rintro e w3 ⟨t3, rfl, g3⟩
        have hY3 := hX3.trans (Same.ofBelow (lo := lo) (hi := hi) g3 (by omega) (by omega))
        clear d0 f0 z0 d1 f1 z1 d2 f2 z2 d3 f3 z3 hX3 hXs3 g3 hY2
        have hRw := hR.turn hY3 (fun _ h => h)
        have hsz := hY3.below.size
        obtain ⟨v0, v1, v2, v3, hf, d0, f0, z0, d1, f1, z1, d2, f2, z2, d3, f3, z3⟩ := elemSh_SkyHop hRw hlt
        clear hf
        have hE : Same lo hi w (w3.setCell ⟨b, j * 4 + 3, none⟩ (.string t3)) := (hY3.set hb1 hb2 d3 z3 rfl)
        clear hRw
        go_wp2
        go_roundw
        case rel => exact ⟨j + 1, q + 1 + 1 + 1 + 1, by omega, by go_num, by go_num, by have := HQ.out; show _ = _; omega, hE⟩
        case measure => simp [intOf]; omega
      · have hje : j = n := by omega
        subst hje
        have HE : Hid (q = k + c) := by have h1 := hq.out; have h2 := HF.out; show _ = _; omega
        clear hq HF
        go_wp2
        go_ret
        exact ⟨by rw [HE.out]; rfl, hS⟩

end Go.Proofs.Ythbjofobilfbpaa
