/- DERIVED. impl.planCellsAlong: its walk. -/
import Derived.Test.YtgnjkpmbppmoeaaGreatKGPc
import Derived.Test.YtgnjkpmbppmoeaaGreatKPQ0
namespace Go.Proofs.YtgnjkpmbppmoeaaGreat
namespace Pcl
open Go.RowKit Leg
set_option linter.unusedSimpArgs false
set_option linter.unusedVariables false

theorem infoPC : (Tryz.prog.info? 84).map (fun i => (i.zero, i.size, i.bytes)) = some (some (.agg #[.int .i64 0, .int .i64 0]), 2, 16) := by kernel_rfl
theorem mixedP : Tryz.prog.follows .mixedOrders = true := by kernel_rfl
def lenOf : Value → Nat
  | .slice _ n _ => n
  | _ => 0
theorem grown_setO {w : World} (B o : Nat) (v : Value) : w.grownBy (w.setCell ⟨B, o, none⟩ v) (some B) :=
  have b := (Below.refl 0 w).setCell (p := ⟨B, o, none⟩) (Nat.zero_le _) v
  ⟨b.os, b.tape, b.output, b.size, fun k hk hne => Below.heap_setCell w ⟨B, o, none⟩ v k (by intro e; exact hne (by rw [e]))⟩
theorem grown_bel {W W' : World} (row : Option Nat) (h : Below W.heap.size W W') : W.grownBy W' row := ⟨h.os, h.tape, h.output, h.size, fun k hk _ => h.block k hk⟩

theorem hnew (w : World) (o : Obj) : (w.alloc o).heap[w.heap.size]? = some o := heap_alloc_new w o
theorem LegJ0 {W : World} {B Bb Bm Bs Bl : Nat} {f t : DCell} {N : Nat} {k m s : Int} (h : LegAt W B Bb Bm Bs Bl f t N k m s) : LegAt W B Bb Bm Bs Bl f t N (k + s * ((min 0 N : Nat) : Int)) m s := by
  rw [Nat.zero_min, show ((0 : Nat) : Int) = 0 from rfl, Int.mul_zero, Int.add_zero]
  exact h
theorem LegAt.low {W : World} {B B' Bb Bm Bs Bl : Nat} {f t : DCell} {N : Nat} {k m s : Int} (h : LegAt W B Bb Bm Bs Bl f t N k m s) (hb : B' ≤ B) : LegAt W B' Bb Bm Bs Bl f t N k m s :=
  ⟨h.b, h.m, h.s, h.l, ⟨⟨Nat.le_trans hb h.ge.1.1, Nat.le_trans hb h.ge.1.2⟩, Nat.le_trans hb h.ge.2.1, Nat.le_trans hb h.ge.2.2⟩, h.lt, h.ne⟩

/-- A leg's closure that has been asked j times. -/
def LegJ (W : World) (B Bb Bm Bs Bl : Nat) (f t : DCell) (N : Nat) (k m s : Int) (j : Nat) : Prop := LegAt W B Bb Bm Bs Bl f t N (k + s * ((min j N : Nat) : Int)) m s

set_option maxHeartbeats 1000000 in
theorem legNext {W : World} {B Bb Bm Bs Bl : Nat} {f t : DCell} {N : Nat} {k m s : Int} {j : Nat} (h : LegJ W B Bb Bm Bs Bl f t N k m s j) (hj : j ≤ N) (hft : InLeg f ∧ InLeg t) (hN : N ≤ 15)
    (HS : ∀ i : Nat, i ≤ N → (0 ≤ k + s * (i : Int) ∧ k + s * (i : Int) ≤ (N : Int)) ∧ (k + s * (i : Int) = m ↔ i = N)) :
    Calls Tryz.prog 120 #[.pointer (some ⟨Bb, 0, none⟩), .pointer (some ⟨Bm, 0, none⟩), .pointer (some ⟨Bs, 0, none⟩), .pointer (some ⟨Bl, 0, none⟩)] W fun e w' => ∃ cx cy : Int, e = .returned (.tuple #[.agg #[.int .i64 cx, .int .i64 cy], .bool (decide (j < N))]) ∧ Hid (∀ h : j < (runL N f t k s).length, (cx, cy) = (runL N f t k s)[j]'h) ∧ W.grownBy w' (some Bb) ∧ LegJ w' B Bb Bm Bs Bl f t N k m s (j + 1) := by
  unfold LegJ at h ⊢
  have hmin : min j N = j := by omega
  rw [hmin] at h
  by_cases hlt : j < N
  · have hmin2 : min (j + 1) N = j + 1 := by omega
    rw [hmin2, decide_eq_true hlt]
    obtain ⟨h1, h2⟩ := HS j hj
    obtain ⟨h3, h4⟩ := HS (j + 1) hlt
    have hks : k + s * (j : Int) + s = k + s * (((j + 1 : Nat) : Int)) := by
      rw [show (((j + 1 : Nat) : Int)) = (j : Int) + 1 from by omega, Int.mul_add]
      omega
    have hc := legStep Bb Bm Bs Bl f t N (k + s * (j : Int)) m s W h.b h.m h.s h.l h.lt.1.1 h.lt.1.2 h.lt.2.1 h.lt.2.2 h.ne.2.2 hft.1 hft.2 hN (by rw [hks]; exact h3) (fun e => by have := h2.1 e; omega)
    rw [hks] at hc
    refine hc.mono ?_
    rintro e w' ⟨rfl, hg, hb⟩
    refine ⟨_, _, rfl, fun h5 => ?_, hg, h.turned hg hb⟩
    rw [runL_at]
    congr 1
  · have hjN : j = N := by omega
    subst hjN
    have hmin2 : min (j + 1) j = j := by omega
    rw [hmin2, decide_eq_false hlt]
    have hm : k + s * (j : Int) = m := (HS j hj).2.2 rfl
    have hc := legStop Bb Bm Bs Bl (k + s * (j : Int)) W h.b.1 (by rw [hm]; exact h.m) h.lt.1.1 h.lt.1.2
    refine hc.mono ?_
    rintro e w' ⟨rfl, hb⟩
    refine ⟨_, _, rfl, fun h5 => absurd h5 (by rw [runL_len]; omega), grown_bel _ hb, h.kept (hb.block _ h.lt.1.1) (hb.block _ h.lt.1.2) (hb.block _ h.lt.2.1) (hb.block _ h.lt.2.2) hb.size⟩

/-- The end of a leg, its box, and the leg's beginning among the ends. -/
def EndsC (g0 k Bx : Nat) (p q : DCell) (W : World) : Prop :=
  W.cell? ⟨g0, k * 2, none⟩ = some (.int .i64 p.1) ∧ W.cell? ⟨g0, k * 2 + 1, none⟩ = some (.int .i64 p.2) ∧ W.cell? ⟨Bx, 0, none⟩ = some (.int .i64 q.1) ∧ W.cell? ⟨Bx, 1, none⟩ = some (.int .i64 q.2)
theorem EndsC.below {g0 k Bx n : Nat} {p q : DCell} {W W' : World} (h : EndsC g0 k Bx p q W) (hb : Below n W W') (h1 : g0 < n) (h2 : Bx < n) : EndsC g0 k Bx p q W' := by
  obtain ⟨a, b, c, d⟩ := h
  exact ⟨(hb.cell (p := ⟨g0, _, none⟩) h1).trans a, (hb.cell (p := ⟨g0, _, none⟩) h1).trans b, (hb.cell (p := ⟨Bx, _, none⟩) h2).trans c, (hb.cell (p := ⟨Bx, _, none⟩) h2).trans d⟩

set_option maxRecDepth 100000 in
set_option maxHeartbeats 8000000 in
theorem iAlong (g0 cap m : Nat) (es : List DCell) (w : World) (hlen : es.length = m + 1) (hA : ∀ i (h : i < es.length), w.cell? ⟨g0, i * 2, none⟩ = some (.int .i64 (es[i]'h).1) ∧ w.cell? ⟨g0, i * 2 + 1, none⟩ = some (.int .i64 (es[i]'h).2)) (hg0 : g0 < w.heap.size) (h2 : 1 ≤ m) (h8 : m ≤ 7) (hcap : m + 1 ≤ cap) (hcm : cap ≤ maxLen) (hIn : ∀ i, InLeg (es.getD i zC)) :
    Calls Tryz.prog 83 #[.slice (some ⟨g0, 0, none⟩) (m + 1) cap] w fun e w' => ∃ g cap', e = .returned (.slice (some ⟨g, 0, none⟩) (alongTo es m).length cap') ∧ w'.ownsRow w.heap.size 84 2 (.slice (some ⟨g, 0, none⟩) (alongTo es m).length cap') (alongTo es m).length (valsPlanCell (alongTo es m)) ∧ Below w.heap.size w w' := by
  obtain ⟨i0, hi, hz0, hz1, hz2⟩ := info_parts infoPC
  unfold maxLen at hcm
  have hE : ∀ i, i < m + 1 → w.cell? ⟨g0, i * 2, none⟩ = some (.int .i64 (es.getD i zC).1) ∧ w.cell? ⟨g0, i * 2 + 1, none⟩ = some (.int .i64 (es.getD i zC).2) := fun i h => by
    have e : es.getD i zC = es[i]'(by omega) := by rw [List.getD_eq_getElem?_getD, List.getElem?_eq_getElem (by omega)]; rfl
    rw [e]
    exact hA i (by omega)
  clear hA
  have a00 := hE 0 (by omega)
  obtain ⟨x0, y0, hxy⟩ : ∃ x y, es.getD 0 zC = (x, y) := ⟨_, _, rfl⟩
  rw [hxy] at a00
  obtain ⟨q0, q1⟩ := a00
  simp at q0 q1
  have HXY : Hid (alongTo es 0 = [(x0, y0)]) := by show [es.getD 0 zC] = _; rw [hxy]
  have HE : Hid (∀ i, i < m + 1 → w.cell? ⟨g0, i * 2, none⟩ = some (.int .i64 (es.getD i zC).1) ∧ w.cell? ⟨g0, i * 2 + 1, none⟩ = some (.int .i64 (es.getD i zC).2)) := hE
  have HIN : Hid (∀ i, InLeg (es.getD i zC)) := hIn
  have HLEN : Hid (∀ k, 1 ≤ (alongTo es k).length ∧ (alongTo es k).length ≤ 1 + 15 * k) := fun k => along_len hIn k
  clear hE hIn hxy hlen
  have hcI : ((m : Int) + 1) ≤ (cap : Int) := by omega
  go_enter Tryz.func83, Tryz.ntmps83
  go_wp2_with fail
  clear q0 q1
  go_loopw [3, 16] (fun v i wr => ∃ k g cp : Nat, k ≤ m ∧ i = .int .i64 k ∧ v = .slice (some ⟨g, 0, none⟩) (alongTo es k).length cp ∧ wr.ownsRow w.heap.size 84 2 (.slice (some ⟨g, 0, none⟩) (alongTo es k).length cp) (alongTo es k).length (valsPlanCell (alongTo es k)) ∧ Below w.heap.size w wr) (fun _ i _ => m - (intOf i).toNat)
  case atStart =>
    refine ⟨0, w.heap.size, 1, Nat.zero_le _, rfl, ?_, ?_, (Below.refl _ _).alloc (Nat.le_refl _) _⟩
    · rw [HXY.out]; rfl
    · rw [HXY.out]
      exact ⟨rfl, .inr ⟨w.heap.size, 1, #[.int .i64 x0, .int .i64 y0], rfl, Nat.le_refl _, hnew w _, Nat.le_refl _, by unfold maxLen; omega, rfl, rfl⟩⟩
  case round =>
    obtain ⟨wo, hwo⟩ : ∃ x, x = wr := ⟨_, rfl⟩
    subst hwo
    obtain ⟨k, g, cp, hk, rfl, rfl, hO, hbel⟩ := hrel
    have hsz := hbel.size
    obtain ⟨hL1, hL2⟩ := HLEN.out k
    obtain ⟨⟨hgB, hgS⟩, hnc⟩ : (w.heap.size ≤ g ∧ g < wo.heap.size) ∧ True := ⟨hO.lt g rfl, trivial⟩
    by_cases hlt : k < m
    · obtain ⟨p0, p1⟩ := HE.out k (by omega)
      obtain ⟨r0, r1⟩ := HE.out (k + 1) (by omega)
      have hOP := open_any _ _ (HIN.out k) (HIN.out (k + 1))
      have HNX : Hid (alongTo es (k + 1) = alongTo es k ++ tailL (es.getD k zC) (es.getD (k + 1) zC)) := rfl
      obtain ⟨p, hp⟩ : ∃ p, p = es.getD k zC := ⟨_, rfl⟩
      obtain ⟨r, hr⟩ : ∃ r, r = es.getD (k + 1) zC := ⟨_, rfl⟩
      rw [← hp, ← hr] at hOP HNX
      rw [← hp] at p0 p1
      rw [← hr] at r0 r1
      clear hp hr
      obtain ⟨f, t, N, k0, m0, s, hft, hN, htl, HS, hs, HCL⟩ := hOP
      rw [htl] at HNX
      have HHS : Hid _ := HS
      clear htl HS
      have p0' := (hbel.cell (p := ⟨g0, k * 2, none⟩) hg0).trans p0
      have p1' := (hbel.cell (p := ⟨g0, k * 2 + 1, none⟩) hg0).trans p1
      have r0' := (hbel.cell (p := ⟨g0, (k + 1) * 2, none⟩) hg0).trans r0
      have r1' := (hbel.cell (p := ⟨g0, (k + 1) * 2 + 1, none⟩) hg0).trans r1
      rw [show (k + 1) * 2 = 2 + k * 2 from by omega] at r0' r1'
      clear p0 p1 r0 r1
      obtain ⟨px, py⟩ := p
      obtain ⟨rx, ry⟩ := r
      simp only [vCe] at HCL p0' p1' r0' r1'
      have hkI : (k : Int) < (m : Int) := by omega
      have hkI1 : (k : Int) < (m : Int) + 1 := by omega
      go_wp2_with fail
      have hg0r : g0 < wo.heap.size := by omega
      have HC0 : EndsC g0 k wo.heap.size (px, py) (rx, ry) (wo.alloc (.cells #[.int .i64 rx, .int .i64 ry] 84)).drew := ⟨by go_simp, by go_simp, by go_simp, by go_simp⟩
      have HNEXT := fun (W : World) (Bb Bm Bs Bl j : Nat) (h : LegJ W (wo.heap.size + 1) Bb Bm Bs Bl f t N k0 m0 s j) (hj : j ≤ N) => legNext h hj hft hN HHS.out
      have hTl : (runL N f t k0 s).length = N := runL_len N f t k0 s
      generalize runL N f t k0 s = T at HNX HNEXT hTl
      generalize alongTo es k = L0 at *
      clear p0' p1' r0' r1' hft HHS
      refine wp_region_RC (EndsC g0 k wo.heap.size (px, py) (rx, ry)) mixedP ?_
      refine RC.take (i := 0) (v := ?va0) rfl (by kernel_rfl) (by kernel_rfl) (by kernel_rfl) (fun _ _ _ h => h) HC0 (by rfl) ?ya0 ?ra0
      case ya0 => (intro W hW; obtain ⟨c0, c1, c2, c3⟩ := hW; go_simp; try with_reducible rfl)
      refine RC.take (i := 1) (v := ?va1) rfl (by kernel_rfl) (by kernel_rfl) (by kernel_rfl) (fun _ _ _ h => h) HC0 (by rfl) ?ya1 ?ra1
      case ya1 => (intro W hW; obtain ⟨c0, c1, c2, c3⟩ := hW; go_simp; try with_reducible rfl)
      refine RC.take (i := 2) (v := ?va2) rfl (by kernel_rfl) (by kernel_rfl) (by kernel_rfl) (fun _ _ _ h => h) HC0 (by rfl) ?ya2 ?ra2
      case ya2 => (intro W hW; obtain ⟨c0, c1, c2, c3⟩ := hW; go_simp; try with_reducible rfl)
      refine RC.take (i := 3) (v := ?va3) rfl (by kernel_rfl) (by kernel_rfl) (by kernel_rfl) (fun _ _ _ h => h) HC0 (by rfl) ?ya3 ?ra3
      case ya3 => (intro W hW; obtain ⟨c0, c1, c2, c3⟩ := hW; go_simp; try with_reducible rfl)
      refine RC.take (i := 4) (v := ?va4) rfl (by kernel_rfl) (by kernel_rfl) (by kernel_rfl) (fun _ _ _ h => h) HC0 (by rfl) ?ya4 ?ra4
      case ya4 => (intro W hW; obtain ⟨c0, c1, c2, c3⟩ := hW; go_simp; try with_reducible rfl)
      refine RC.want (i := 5) (by kernel_rfl) rfl (by rfl) (fun K hK => ?_)
      go_simp
      refine (HCL _).mono ?_
      rintro e w2 ⟨Bb, Bm, Bs, Bl, rfl, hLA, hb2⟩
      simp only
      have hzz2 : wo.heap.size + 1 ≤ w2.heap.size := by have := hb2.size; simpa using this
      have HC1 : EndsC g0 k wo.heap.size (px, py) (rx, ry) w2 := HC0.below hb2 (by simp; omega) (by simp)
      refine hK _ _ HC1 ?_
      clear hK K
      refine RC.take (i := 6) (v := ?va6) rfl (by kernel_rfl) (by kernel_rfl) (by kernel_rfl) (fun _ _ _ h => h) HC1 (by rfl) ?ya6 ?ra6
      case ya6 => (intro W hW; obtain ⟨c0, c1, c2, c3⟩ := hW; go_simp; try with_reducible rfl)
      refine RC.done (by kernel_rfl) ?_
      have hLJ0 : LegJ w2 (wo.heap.size + 1) Bb Bm Bs Bl f t N k0 m0 s 0 := (LegJ0 hLA).low (by simp)
      have hbW2 : Below (wo.heap.size + 1) (wo.alloc (.cells #[.int .i64 rx, .int .i64 ry] 84)) w2 := ((Below.refl _ _).drew).trans (hb2.mono (by simp))
      have hbw2 : Below wo.heap.size wo w2 := ((Below.refl _ _).alloc (Nat.le_refl _) _).trans (hbW2.mono (by omega))
      have hB2 : Below w.heap.size w w2 := hbel.trans (hbw2.mono hsz)
      have hO2 : w2.ownsRow w.heap.size 84 2 (.slice (some ⟨g, 0, none⟩) L0.length cp) L0.length (valsPlanCell L0) := owns_below hO hbw2
      obtain ⟨⟨hge1, hge2⟩, hge3, hge4⟩ := hLJ0.ge
      clear HC0 HC1 hLA hb2 hbW2 hbw2 HCL hO hbel
      go_wp2_with fail
      refine (HNEXT _ _ _ _ _ 0 hLJ0 (Nat.zero_le _)).mono ?_
      rintro e w3 ⟨cx, cy, rfl, hc, hg3, hLJ1⟩
      have hB3 : Below w.heap.size w w3 := hB2.grown hg3 hB2.size (fun j hj => by cases hj; omega)
      have hO3 := hO2.kept (row := some Bb) hg3 (.inr (by simp [Value.ownBlock]; omega))
      have hz3 := hg3.size
      clear hg3 hO2 hB2 hLJ0
      go_wp2_with fail
      have hOs := hO3.alloc (.cells #[.int .i64 cx, .int .i64 cy] 84)
      have hLJs : LegJ (w3.alloc (.cells #[.int .i64 cx, .int .i64 cy] 84)) (wo.heap.size + 1) Bb Bm Bs Bl f t N k0 m0 s 1 := LegAt.kept hLJ1 (Below.heap_alloc _ _ _ hLJ1.lt.1.1) (Below.heap_alloc _ _ _ hLJ1.lt.1.2) (Below.heap_alloc _ _ _ hLJ1.lt.2.1) (Below.heap_alloc _ _ _ hLJ1.lt.2.2) (by simp)
      have hBs := hB3.alloc hB3.size (.cells #[.int .i64 cx, .int .i64 cy] 84)
      have hLl := HLEN.out
      clear hLJ1 hO3 HLEN
      go_loopw [3, 7, 8] (fun v p b wr2 => ∃ (j g cp Bx : Nat) (cx cy : Int), j ≤ N ∧ v = .slice (some ⟨g, 0, none⟩) (L0.length + j) cp ∧ p = .pointer (some ⟨Bx, 0, none⟩) ∧ b = .bool (decide (j < N)) ∧ wr2.ownsRow w.heap.size 84 2 (.slice (some ⟨g, 0, none⟩) (L0.length + j) cp) (L0.length + j) (valsPlanCell (L0 ++ T.take j)) ∧
          (wr2.cell? ⟨Bx, 0, none⟩ = some (.int .i64 cx) ∧ wr2.cell? ⟨Bx, 1, none⟩ = some (.int .i64 cy)) ∧ Hid (∀ h : j < T.length, (cx, cy) = T[j]'h) ∧ LegJ wr2 (wo.heap.size + 1) Bb Bm Bs Bl f t N k0 m0 s (j + 1) ∧ ((g ≠ Bb ∧ g ≠ Bm) ∧ (g ≠ Bs ∧ g ≠ Bl) ∧ g ≠ Bx) ∧ Bx < wr2.heap.size ∧ Below w.heap.size w wr2) (fun v _ _ _ => L0.length + N - lenOf v)
      case atStart => exact ⟨0, g, cp, w3.heap.size, cx, cy, Nat.zero_le _, rfl, rfl, rfl, by simpa using hOs, ⟨by go_simp, by go_simp⟩, hc, hLJs, ⟨⟨by omega, by omega⟩, ⟨by omega, by omega⟩, by omega⟩, by simp, hBs⟩
      case round =>
        clear hc hOs hLJs hBs
        obtain ⟨j, g, cp, Bx, cx, cy, hj, rfl, rfl, rfl, hO, ⟨b0, b1⟩, hc, hLJ, ⟨⟨n1, n2⟩, ⟨n3, n4⟩, n5⟩, hBx, hB⟩ := hrel
        have hzr := hB.size
        obtain ⟨hgB2, hgS2⟩ := hO.lt g rfl
        by_cases hlt2 : j < N
        · rw [decide_eq_true hlt2]
          have hTk : Hid (T.take (j + 1) = T.take j ++ [(cx, cy)]) := by
            show _ = _
            rw [List.take_succ_eq_append_getElem (by omega), ← hc.out (by omega)]
          clear hc
          have hLlen : L0.length + j ≤ 1000 := by omega
          go_wp2_with (at_builtin; go_loud (refine wpList_append_own_at _ rfl _ _ 78 rfl w.heap.size 84 i0 (.agg #[.int .i64 0, .int .i64 0]) 2 16 Tryz.underlying78 hi hz0 hz1 hz2 rfl (by decide) _ _ _ rfl (hO.alloc _) ⟨wr.heap.size, 0, none⟩ 1 1 [.int .i64 cx, .int .i64 cy] rfl rfl ?c1 ?c2 ?c3 ?c4 ?c5 ?_))
          case c1 =>
            intro j u hj
            match j, hj with
            | 0, hj => simp at hj; subst hj; simp [Addr.add]
            | 1, hj => simp at hj; subst hj; simp [Addr.add]
          case c2 =>
            intro u hu
            simp at hu
            rcases hu with rfl | rfl <;> rfl
          case c3 => unfold maxLen; omega
          case c4 => omega
          case c5 => simp; omega
          intro v' w6 hown' hgrow _ hat
          obtain ⟨g', cp', rfl⟩ := owns_pos hown'
          have hgg : g' = g ∨ g' = wr.heap.size + 1 := by simpa [Value.ownBlock] using hat
          have hz6 : wr.heap.size + 1 ≤ w6.heap.size := by have := hgrow.size; simpa using this
          have hk6 : ∀ b, b < wr.heap.size → b ≠ g → w6.heap[b]? = wr.heap[b]? := fun b hb hne => (hgrow.block b (by simp; omega) (by simp [Value.ownBlock]; exact fun e => hne e)).trans (Below.heap_alloc _ _ _ hb)
          obtain ⟨⟨l1, l2⟩, l3, l4⟩ := hLJ.lt
          have hLJ6 : LegJ w6 (wo.heap.size + 1) Bb Bm Bs Bl f t N k0 m0 s (j + 1) := LegAt.kept hLJ (hk6 _ l1 n1.symm) (hk6 _ l2 n2.symm) (hk6 _ l3 n3.symm) (hk6 _ l4 n4.symm) (by omega)
          have d0 := (World.cell?_of_block (w := wr) (w' := w6) (a := ⟨Bx, 0, none⟩) (hk6 Bx hBx n5.symm)).trans b0
          have d1 := (World.cell?_of_block (w := wr) (w' := w6) (a := ⟨Bx, 1, none⟩) (hk6 Bx hBx n5.symm)).trans b1
          have hB6 : Below w.heap.size w w6 := (hB.alloc hzr _).grown hgrow (by simp; omega) (fun j hj => by simp [Value.ownBlock] at hj; omega)
          have hO6 : w6.ownsRow w.heap.size 84 2 (.slice (some ⟨g', 0, none⟩) (L0.length + (j + 1)) cp') (L0.length + (j + 1)) (valsPlanCell (L0 ++ T.take (j + 1))) := by
            rw [hTk.out, ← List.append_assoc, valsPlanCell_snoc]
            exact hown'
          have m1 : g' ≠ Bb := by omega
          have m2 : g' ≠ Bm := by omega
          have m3 : g' ≠ Bs := by omega
          have m4 : g' ≠ Bl := by omega
          have hgS6 : g' < w6.heap.size := (hO6.lt g' rfl).2
          have hBx6 : Bx < w6.heap.size := by omega
          have HO6 : Hid _ := hO6
          have HLJ6 : Hid _ := hLJ6
          have hLl1 : Bb < w6.heap.size := by omega
          clear hown' hgrow hat hgg hk6 hLJ hO hB b0 b1 hTk hO6 hLJ6
          go_wp2_with fail
          have hLJ7 : LegJ (w6.alloc (.cells #[.int .i64 cx, .int .i64 cy] 84)) (wo.heap.size + 1) Bb Bm Bs Bl f t N k0 m0 s (j + 1) := LegAt.kept HLJ6.out (Below.heap_alloc _ _ _ HLJ6.out.lt.1.1) (Below.heap_alloc _ _ _ HLJ6.out.lt.1.2) (Below.heap_alloc _ _ _ HLJ6.out.lt.2.1) (Below.heap_alloc _ _ _ HLJ6.out.lt.2.2) (by simp)
          refine (HNEXT _ _ _ _ _ (j + 1) hLJ7 (by omega)).mono ?_
          rintro e w8 ⟨dx, dy, rfl, hd, hg8, hLJ8⟩
          have hz8 : w6.heap.size + 1 ≤ w8.heap.size := by have := hg8.size; simpa using this
          have e0 : w8.cell? ⟨w6.heap.size, 0, none⟩ = some (.int .i64 cx) := (hg8.cell_far ⟨w6.heap.size, 0, none⟩ (by simp) (by simp; omega)).trans (by simp)
          have e1 : w8.cell? ⟨w6.heap.size, 1, none⟩ = some (.int .i64 cy) := (hg8.cell_far ⟨w6.heap.size, 1, none⟩ (by simp) (by simp; omega)).trans (by simp)
          have f0 : w8.frozen? ⟨w6.heap.size, 0, none⟩ = false := (hg8.frozen_far ⟨w6.heap.size, 0, none⟩ (by simp) (by simp; omega)).trans (by simp)
          have f1 : w8.frozen? ⟨w6.heap.size, 1, none⟩ = false := (hg8.frozen_far ⟨w6.heap.size, 1, none⟩ (by simp) (by simp; omega)).trans (by simp)
          have hO6' : w6.ownsRow w.heap.size 84 2 (.slice (some ⟨g', 0, none⟩) (L0.length + (j + 1)) cp') (L0.length + (j + 1)) (valsPlanCell (L0 ++ T.take (j + 1))) := HO6.out
          have hO8 := (hO6'.alloc (.cells #[.int .i64 cx, .int .i64 cy] 84)).kept (row := some Bb) hg8 (.inr (by simp [Value.ownBlock]; omega))
          have HO9 : Hid (((w8.setCell ⟨w6.heap.size, 0, none⟩ (.int .i64 dx)).setCell ⟨w6.heap.size, 1, none⟩ (.int .i64 dy)).ownsRow w.heap.size 84 2 (.slice (some ⟨g', 0, none⟩) (L0.length + (j + 1)) cp') (L0.length + (j + 1)) (valsPlanCell (L0 ++ T.take (j + 1)))) := (hO8.kept (row := some w6.heap.size) (grown_setO _ _ _) (.inr (by simp [Value.ownBlock]; omega))).kept (row := some w6.heap.size) (grown_setO _ _ _) (.inr (by simp [Value.ownBlock]; omega))
          have hg9 : w8.grownBy ((w8.setCell ⟨w6.heap.size, 0, none⟩ (.int .i64 dx)).setCell ⟨w6.heap.size, 1, none⟩ (.int .i64 dy)) (some w6.heap.size) := (grown_setO _ _ _).trans (grown_setO _ _ _)
          have HLJ9 : Hid (LegJ ((w8.setCell ⟨w6.heap.size, 0, none⟩ (.int .i64 dx)).setCell ⟨w6.heap.size, 1, none⟩ (.int .i64 dy)) (wo.heap.size + 1) Bb Bm Bs Bl f t N k0 m0 s (j + 1 + 1)) := LegAt.kept hLJ8 (hg9.block _ hLJ8.lt.1.1 (by simp; omega)) (hg9.block _ hLJ8.lt.1.2 (by simp; have := HLJ6.out.lt.1.2; omega)) (hg9.block _ hLJ8.lt.2.1 (by simp; have := HLJ6.out.lt.2.1; omega)) (hg9.block _ hLJ8.lt.2.2 (by simp; have := HLJ6.out.lt.2.2; omega)) hg9.size
          have HB9 : Hid (Below w.heap.size w ((w8.setCell ⟨w6.heap.size, 0, none⟩ (.int .i64 dx)).setCell ⟨w6.heap.size, 1, none⟩ (.int .i64 dy))) := ((hB6.alloc hB6.size _).grown hg8 (by have := hB6.size; simp; omega) (fun j hj => by cases hj; omega)).grown hg9 (by have := hB6.size; omega) (fun j hj => by cases hj; exact hB6.size)
          have hHd : Hid (∀ h : j + 1 < T.length, (dx, dy) = T[j + 1]'h) := hd
          have c0 : ((w8.setCell ⟨w6.heap.size, 0, none⟩ (.int .i64 dx)).setCell ⟨w6.heap.size, 1, none⟩ (.int .i64 dy)).cell? ⟨w6.heap.size, 0, none⟩ = some (.int .i64 dx) := by go_simp
          have c1 : ((w8.setCell ⟨w6.heap.size, 0, none⟩ (.int .i64 dx)).setCell ⟨w6.heap.size, 1, none⟩ (.int .i64 dy)).cell? ⟨w6.heap.size, 1, none⟩ = some (.int .i64 dy) := by go_simp
          have HC0 : Hid _ := c0
          have HC1 : Hid _ := c1
          clear hd hg9 hO6' hO8 hLJ8 hg8 hLJ7 HLJ6 HO6 hB6 d0 d1 c0 c1
          go_wp2
          go_roundw
          case rel => exact ⟨j + 1, g', cp', w6.heap.size, dx, dy, by omega, rfl, rfl, rfl, HO9.out, ⟨HC0.out, HC1.out⟩, hHd, HLJ9.out, ⟨⟨m1, m2⟩, ⟨m3, m4⟩, by omega⟩, by simp; omega, HB9.out⟩
          case measure => simp [lenOf]; omega
        · rw [decide_eq_false hlt2]
          have hjN : j = N := by omega
          have HFin : Hid (wr.ownsRow w.heap.size 84 2 (.slice (some ⟨g, 0, none⟩) (alongTo es (k + 1)).length cp) (alongTo es (k + 1)).length (valsPlanCell (alongTo es (k + 1)))) := by
            have e : T.take j = T := List.take_of_length_le (by omega)
            show World.ownsRow _ _ _ _ _ _ _
            rw [HNX.out, List.length_append, hTl, ← hjN]
            rw [e] at hO
            exact hO
          have HV : Hid (L0.length + j = (alongTo es (k + 1)).length) := by show _ = _; rw [HNX.out, List.length_append, hTl, hjN]
          clear hO hc hLJ b0 b1
          go_wp2
          go_roundw
          case rel => exact ⟨k + 1, g, cp, by omega, by go_num, by rw [HV.out], HFin.out, hB⟩
          case measure => simp [intOf]; omega
    · have hke : k = m := by omega
      subst hke
      have HO : Hid _ := hO
      clear hO
      go_wp2
      go_ret
      exact ⟨g, cp, rfl, HO.out, hbel⟩

end Pcl
end Go.Proofs.YtgnjkpmbppmoeaaGreat
