/- DERIVED. spec.l2Covers: its walk (written by wip/tools/mk_s9.py). -/
import Derived.Test.YthkpjljhjdjbfaaDoorSkyS8
import Derived.Test.YthkpjljhjdjbfaaDoorSkyQ
namespace Go.Proofs.YthkpjljhjdjbfaaDoor
open Go.RowKit Go.Sort
set_option linter.unusedSimpArgs false
set_option linter.unusedVariables false

/-- What is owned can be read as a list. -/
theorem slice_of_owns {w : World} {base g n cap : Nat} {l : List DSkyBlock} (hn : n = l.length) (h : w.ownsRow base 77 6 (.slice (some ⟨g, 0, none⟩) n cap) n (blkCells l)) (hin : ∀ x ∈ l, In64 x.1 ∧ In64 x.2.1 ∧ In64 x.2.2.1 ∧ In64 x.2.2.2.1 ∧ In64 x.2.2.2.2.1 ∧ In64 x.2.2.2.2.2) : SliceAt vSkyBlock (old w) w (some ⟨g, 0, none⟩) cap l := by
  have hlt := (h.lt g rfl).2
  have hcl := h.cells (g := g) rfl
  have hcap : n ≤ cap ∧ cap ≤ maxLen := by
    rcases h.2 with ⟨h0, _⟩ | ⟨g', cap', cur, hv, _, _, h1, h2, _⟩
    · cases h0
    · cases hv; exact ⟨h1, h2⟩
  refine ⟨by omega, hcap.2, .inr ⟨g, 0, rfl, hlt, fun i hi => ?_⟩⟩
  obtain ⟨p0, p1, p2, p3, p4, p5⟩ := hin _ (List.getElem_mem hi)
  refine ⟨blkVals (l[i]'hi), mk_SkyBlock p0 p1 p2 p3 p4 p5, fun j hj => ?_⟩
  have hj6 : j < 6 := hj
  have h1 := blkCells_at l i hi j hj6
  have h2 : (blkVals (l[i]'hi))[j]? = some ((blkVals (l[i]'hi))[j]'hj6) := List.getElem?_eq_getElem _
  rw [h2] at h1 ⊢
  have h3 := hcl _ _ h1
  rw [add_none] at h3
  simpa [Nat.add_assoc, vSkyBlock_size] using h3

theorem ok_in64 {W H L : Int} {x : DSkyBlock} (h : BlockOk W H L x) (hW : W ≤ 16) (hH : H ≤ 16) (hL : L ≤ 6) : In64 x.1 ∧ In64 x.2.1 ∧ In64 x.2.2.1 ∧ In64 x.2.2.2.1 ∧ In64 x.2.2.2.2.1 ∧ In64 x.2.2.2.2.2 := by
  obtain ⟨X0, Y0, X1, Y1, l, u⟩ := x
  simp only [BlockOk] at h
  simp only [In64]
  omega

theorem vol_bds {W H L : Int} {x : DSkyBlock} (h : BlockOk W H L x) (hW : W ≤ 16) (hH : H ≤ 16) (hL : L ≤ 6) :
    (0 ≤ (x.2.2.1 - x.1 + 1) * (x.2.2.2.1 - x.2.1 + 1) ∧ (x.2.2.1 - x.1 + 1) * (x.2.2.2.1 - x.2.1 + 1) ≤ 256) ∧ 0 ≤ (x.2.2.1 - x.1 + 1) * (x.2.2.2.1 - x.2.1 + 1) * (x.2.2.2.2.2 - x.2.2.2.2.1 + 1) ∧ (x.2.2.1 - x.1 + 1) * (x.2.2.2.1 - x.2.1 + 1) * (x.2.2.2.2.2 - x.2.2.2.2.1 + 1) ≤ 1536 := by
  have hv := vol_pos h hW hH hL
  refine ⟨?_, hv⟩
  obtain ⟨X0, Y0, X1, Y1, l, u⟩ := x
  simp only [BlockOk] at h
  simp only
  have h1 : 1 ≤ X1 - X0 + 1 ∧ X1 - X0 + 1 ≤ 16 := by omega
  have h2 : 1 ≤ Y1 - Y0 + 1 ∧ Y1 - Y0 + 1 ≤ 16 := by omega
  generalize X1 - X0 + 1 = p at *
  generalize Y1 - Y0 + 1 = q at *
  have k0 : 0 ≤ p * q := Int.mul_nonneg (by omega) (by omega)
  have k1 : p * q ≤ 16 * 16 := Int.mul_le_mul h1.2 h2.2 (by omega) (by omega)
  omega

theorem num_bds {W H L : Int} {x : DSkyBlock} (h : BlockOk W H L x) (hW : W ≤ 16) (hH : H ≤ 16) (hL : L ≤ 6) : (0 ≤ x.1 ∧ x.1 ≤ 16) ∧ (0 ≤ x.2.1 ∧ x.2.1 ≤ 16) ∧ (0 ≤ x.2.2.1 ∧ x.2.2.1 ≤ 16) ∧ (0 ≤ x.2.2.2.1 ∧ x.2.2.2.1 ≤ 16) ∧ (0 ≤ x.2.2.2.2.1 ∧ x.2.2.2.2.1 ≤ 16) ∧ (0 ≤ x.2.2.2.2.2 ∧ x.2.2.2.2.2 ≤ 16) := by
  obtain ⟨X0, Y0, X1, Y1, l, u⟩ := x
  simp only [BlockOk] at h
  simp only
  omega

theorem volsS_bd {W H L : Int} (hW : W ≤ 16) (hH : H ≤ 16) (hL : L ≤ 6) : ∀ (bs : List DSkyBlock), (∀ b ∈ bs, BlockOk W H L b) → 0 ≤ (bs.map vol).sum ∧ (bs.map vol).sum ≤ 1536 * bs.length
  | [], _ => by simp
  | b :: bs, h => by
    have h1 := vol_pos (h b (by simp)) hW hH hL
    have h2 := volsS_bd hW hH hL bs (fun c hc => h c (by simp [hc]))
    simp only [List.map_cons, List.sum_cons, List.length_cons]
    omega

theorem prodS_bd {W H L : Int} (hW : 1 ≤ W ∧ W ≤ 16) (hH : 1 ≤ H ∧ H ≤ 16) (hL : 1 ≤ L ∧ L ≤ 6) : (0 ≤ W * H ∧ W * H ≤ 256) ∧ 0 ≤ W * H * L ∧ W * H * L ≤ 1536 := by
  have k0 : 0 ≤ W * H := Int.mul_nonneg (by omega) (by omega)
  have k1 : W * H ≤ 16 * 16 := Int.mul_le_mul hW.2 hH.2 (by omega) (by omega)
  have k2 : 0 ≤ W * H * L := Int.mul_nonneg k0 (by omega)
  have k3 : W * H * L ≤ 16 * 16 * 6 := Int.mul_le_mul k1 hL.2 (by omega) (by omega)
  omega

theorem shares_yes (x y : DSkyBlock) (w : World) (h : Shares x y) : Calls Tryd.prog 60 #[.agg #[.int .i64 x.1, .int .i64 x.2.1, .int .i64 x.2.2.1, .int .i64 x.2.2.2.1, .int .i64 x.2.2.2.2.1, .int .i64 x.2.2.2.2.2], .agg #[.int .i64 y.1, .int .i64 y.2.1, .int .i64 y.2.2.1, .int .i64 y.2.2.2.1, .int .i64 y.2.2.2.2.1, .int .i64 y.2.2.2.2.2]] w fun e w' => e = .returned (.bool true) ∧ Below w.heap.size w w' :=
  (shares_both x y w).mono fun e w' h1 => ⟨by rcases h1.1 with h2 | h2; exact h2.2; exact absurd h h2.1, h1.2⟩
theorem shares_no (x y : DSkyBlock) (w : World) (h : ¬ Shares x y) : Calls Tryd.prog 60 #[.agg #[.int .i64 x.1, .int .i64 x.2.1, .int .i64 x.2.2.1, .int .i64 x.2.2.2.1, .int .i64 x.2.2.2.2.1, .int .i64 x.2.2.2.2.2], .agg #[.int .i64 y.1, .int .i64 y.2.1, .int .i64 y.2.2.1, .int .i64 y.2.2.2.1, .int .i64 y.2.2.2.2.1, .int .i64 y.2.2.2.2.2]] w fun e w' => e = .returned (.bool false) ∧ Below w.heap.size w w' :=
  (shares_both x y w).mono fun e w' h1 => ⟨by rcases h1.1 with h2 | h2; exact absurd h2.1 h; exact h2.2, h1.2⟩

def NoneTo (bs : List DSkyBlock) (k t : Nat) : Prop := ∀ u (hu : u < bs.length) (hk : k < bs.length), u < t → ¬ Shares (bs[u]'hu) (bs[k]'hk)

theorem apart_next {bs : List DSkyBlock} {k : Nat} (hk : k < bs.length) (h : Apart (bs.take k)) (hn : NoneTo bs k k) : Apart (bs.take (k + 1)) := by
  rw [take_snoc' bs k hk, apart_snoc]
  refine ⟨h, fun a ha => ?_⟩
  obtain ⟨i, hi, rfl⟩ := List.getElem_of_mem ha
  rw [List.getElem_take]
  simp at hi
  exact hn i (by omega) hk (by omega)

theorem apart_hit {bs : List DSkyBlock} {k t : Nat} (hk : k < bs.length) (ht : t < k) (h : Shares (bs[t]'(by omega)) (bs[k]'hk)) : ¬ Apart bs := by
  unfold Apart
  rw [List.pairwise_iff_getElem]
  exact fun hp => hp t k (by omega) hk ht h

set_option maxRecDepth 100000 in
set_option maxHeartbeats 4000000 in
theorem specCovers_any (W H L : Int) (a b : Value) (ao5 : Option Addr) (cap5 : Nat) (ss : List DSkySector) (d : Value) (w : World) (hW : 1 ≤ W ∧ W ≤ 16) (hH : 1 ≤ H ∧ H ≤ 16) (hL : 1 ≤ L ∧ L ≤ 6)
    (h : SliceAt vSkySector (old w) w ao5 cap5 ss) (hS : SectorsOk W H L ss) :
    Calls Tryd.prog 34 #[.agg #[.int .i64 W, .int .i64 H, .int .i64 L, a, b, .slice ao5 ss.length cap5, d]] w fun e w' => ((Covers W H L (allBlocks ss) ∧ e = .returned (.bool true)) ∨ (¬ Covers W H L (allBlocks ss) ∧ e = .returned (.bool false))) ∧ Below w.heap.size w w' := by
  have hbs4 : ∀ j (hj : j < ss.length), 1 ≤ (ss[j]'hj).2.length ∧ (ss[j]'hj).2.length ≤ 4 := fun j hj => ⟨(hS.2 j hj).2.2.1, (hS.2 j hj).2.2.2.1⟩
  have hok : ∀ x ∈ allBlocks ss, BlockOk W H L x := by
    intro x hx
    unfold allBlocks at hx
    obtain ⟨s, hs, hxs⟩ := List.mem_flatMap.1 hx
    obtain ⟨i, hi, rfl⟩ := List.getElem_of_mem hs
    obtain ⟨t, ht, rfl⟩ := List.getElem_of_mem hxs
    exact ((hS.2 i hi).2.2.2.2 t ht).1
  have hlen : (allBlocks ss).length ≤ 24 := by
    have h1 : ∀ k, k ≤ ss.length → (allBlocks (ss.take k)).length ≤ 4 * k := by
      intro k
      induction k with
      | zero => intro _; simp [allBlocks]
      | succ k ih =>
        intro hk
        rw [all_take_snoc ss k (by omega), List.length_append]
        have := ih (by omega)
        have := (hbs4 k (by omega)).2
        omega
    have h2 := h1 ss.length (Nat.le_refl _)
    rw [List.take_length] at h2
    have := hS.1
    omega
  have hb0 : Below w.heap.size w (w.alloc (.cells #[.int .i64 W, .int .i64 H, .int .i64 L, a, b, .slice ao5 ss.length cap5, d] 38)) := (Below.refl _ _).alloc (Nat.le_refl _) _
  have hcall := specBlocks_any W H L a b ao5 cap5 ss d (w.alloc (.cells #[.int .i64 W, .int .i64 H, .int .i64 L, a, b, .slice ao5 ss.length cap5, d] 38)) (h.later hb0) hS.1 hbs4
  have HCV : Hid (Covers W H L (allBlocks ss) ↔ Apart (allBlocks ss) ∧ ((allBlocks ss).map vol).sum = W * H * L) := covers_iff
  generalize allBlocks ss = bs at *
  obtain ⟨⟨hwh0, hwh1⟩, hwl0, hwl1⟩ := prodS_bd hW hH hL
  clear hS hbs4
  go_enter Tryd.func34, Tryd.ntmps34
  go_wp2_with fail
  refine hcall.mono ?_
  rintro e w1 ⟨g, cap, rfl, hown, hb1⟩
  have hsl := slice_of_owns rfl hown (fun x hx => ok_in64 (hok x hx) hW.2 hH.2 hL.2)
  have HOK : Hid (∀ x ∈ bs, BlockOk W H L x) := hok
  have hbx : Below (w.heap.size + 1) (w.alloc (.cells #[.int .i64 W, .int .i64 H, .int .i64 L, a, b, .slice ao5 ss.length cap5, d] 38)) w1 := hb1.mono (by simp)
  have hw1 : w.heap.size < w1.heap.size := by have := hbx.size; simp at this; omega
  clear hcall hown hb1 hok hb0
  go_wp2
  go_loopw [4, 5] (fun v i wr => ∃ k : Nat, k ≤ bs.length ∧ i = .int .i64 k ∧ v = .int .i64 ((bs.take k).map vol).sum ∧ Hid (Apart (bs.take k)) ∧ Below w1.heap.size w1 wr) (fun _ i _ => bs.length - (intOf i).toNat)
  case atStart => exact ⟨0, Nat.zero_le _, rfl, by simp, by show Apart _; simp [Apart], Below.refl _ _⟩
  case round =>
    obtain ⟨k, hk, rfl, rfl, hap, hB⟩ := hrel
    have hBX : Below (w.heap.size + 1) (w.alloc (.cells #[.int .i64 W, .int .i64 H, .int .i64 L, a, b, .slice ao5 ss.length cap5, d] 38)) wr := hbx.trans (hB.mono (by omega))
    have hszr := hB.size
    by_cases hlt : k < bs.length
    · obtain ⟨b1, off, hbo, hokb, c0, c1, c2, c3, c4, c5, _⟩ := elem_SkyBlock hsl hlt
      cases hbo
      have f0 := (hB.cell (p := ⟨g, 0 + k * 6, none⟩) hokb).trans c0
      have f1 := (hB.cell (p := ⟨g, 0 + k * 6 + 1, none⟩) hokb).trans c1
      have f2 := (hB.cell (p := ⟨g, 0 + k * 6 + 2, none⟩) hokb).trans c2
      have f3 := (hB.cell (p := ⟨g, 0 + k * 6 + 3, none⟩) hokb).trans c3
      have f4 := (hB.cell (p := ⟨g, 0 + k * 6 + 4, none⟩) hokb).trans c4
      have f5 := (hB.cell (p := ⟨g, 0 + k * 6 + 5, none⟩) hokb).trans c5
      simp only [Nat.zero_add] at f0 f1 f2 f3 f4 f5
      clear c0 c1 c2 c3 c4 c5
      have hkI : (k : Int) < (bs.length : Int) := by omega
      have hbk := HOK.out _ (List.getElem_mem hlt)
      obtain ⟨⟨m1, m2⟩, m3, m4⟩ := vol_bds hbk hW.2 hH.2 hL.2
      obtain ⟨⟨n1, n2⟩, ⟨n3, n4⟩, ⟨n5, n6⟩, ⟨n7, n8⟩, ⟨n9, n10⟩, ⟨n11, n12⟩⟩ := num_bds hbk hW.2 hH.2 hL.2
      have hsum := volsS_bd hW.2 hH.2 hL.2 (bs.take k) (fun x hx => HOK.out x (List.mem_of_mem_take hx))
      have hsl2 : (bs.take k).length ≤ 24 := by simp; omega
      obtain ⟨hs1, hs2⟩ := hsum
      have hs3 : ((bs.take k).map vol).sum ≤ 40000 := by omega
      have HSUM : Hid (((bs.take (k + 1)).map vol).sum = ((bs.take k).map vol).sum + ((bs[k]'hlt).2.2.1 - (bs[k]'hlt).1 + 1) * ((bs[k]'hlt).2.2.2.1 - (bs[k]'hlt).2.1 + 1) * ((bs[k]'hlt).2.2.2.2.2 - (bs[k]'hlt).2.2.2.2.1 + 1)) := by show _ = _; rw [take_snoc' bs k hlt, vol_snoc]; rfl
      have HAP : Hid (Apart (bs.take k)) := hap
      clear hap hbk hs2
      generalize ((bs.take k).map vol).sum = sm at *
      go_wp2
      obtain ⟨wo, hwo⟩ : ∃ x, x = wr := ⟨wr, rfl⟩
      subst hwo
      go_loopw [7] (fun j w2 => ∃ t : Nat, t ≤ k ∧ j = .int .i64 t ∧ Hid (NoneTo bs k t) ∧ Below (wo.heap.size + 1) (wo.alloc (.cells #[.int .i64 (bs[k]'hlt).1, .int .i64 (bs[k]'hlt).2.1, .int .i64 (bs[k]'hlt).2.2.1, .int .i64 (bs[k]'hlt).2.2.2.1, .int .i64 (bs[k]'hlt).2.2.2.2.1, .int .i64 (bs[k]'hlt).2.2.2.2.2] 77)) w2) (fun j _ => k - (intOf j).toNat)
      case atStart => exact ⟨0, Nat.zero_le _, rfl, fun u _ _ hu => by omega, Below.refl _ _⟩
      case round =>
        obtain ⟨t, ht, rfl, hno, hb2⟩ := hrel
        have hB2 := box_below hb2
        have hBw : Below w1.heap.size w1 wr := hB.trans (hB2.mono hszr)
        have v0 : wr.cell? ⟨wo.heap.size, 0, none⟩ = some (.int .i64 (bs[k]'hlt).1) := box_cell hb2 0
        have v1 : wr.cell? ⟨wo.heap.size, 1, none⟩ = some (.int .i64 (bs[k]'hlt).2.1) := box_cell hb2 1
        have v2 : wr.cell? ⟨wo.heap.size, 2, none⟩ = some (.int .i64 (bs[k]'hlt).2.2.1) := box_cell hb2 2
        have v3 : wr.cell? ⟨wo.heap.size, 3, none⟩ = some (.int .i64 (bs[k]'hlt).2.2.2.1) := box_cell hb2 3
        have v4 : wr.cell? ⟨wo.heap.size, 4, none⟩ = some (.int .i64 (bs[k]'hlt).2.2.2.2.1) := box_cell hb2 4
        have v5 : wr.cell? ⟨wo.heap.size, 5, none⟩ = some (.int .i64 (bs[k]'hlt).2.2.2.2.2) := box_cell hb2 5
        by_cases htk : t < k
        · have htl : t < bs.length := by omega
          obtain ⟨b1, off, hbo, _, c0, c1, c2, c3, c4, c5, _⟩ := elem_SkyBlock hsl htl
          cases hbo
          have r0 := (hBw.cell (p := ⟨g, 0 + t * 6, none⟩) hokb).trans c0
          have r1 := (hBw.cell (p := ⟨g, 0 + t * 6 + 1, none⟩) hokb).trans c1
          have r2 := (hBw.cell (p := ⟨g, 0 + t * 6 + 2, none⟩) hokb).trans c2
          have r3 := (hBw.cell (p := ⟨g, 0 + t * 6 + 3, none⟩) hokb).trans c3
          have r4 := (hBw.cell (p := ⟨g, 0 + t * 6 + 4, none⟩) hokb).trans c4
          have r5 := (hBw.cell (p := ⟨g, 0 + t * 6 + 5, none⟩) hokb).trans c5
          simp only [Nat.zero_add] at r0 r1 r2 r3 r4 r5
          clear c0 c1 c2 c3 c4 c5
          have htI : (t : Int) < (bs.length : Int) := by omega
          have htI2 : (t : Int) < (k : Int) := by omega
          have HNO : Hid (NoneTo bs k t) := hno
          clear hno
          by_cases hsh : Shares (bs[t]'htl) (bs[k]'hlt)
          · have HF : Hid (¬ Covers W H L bs) := fun h => apart_hit hlt htk hsh (HCV.out.1 h).1
            have hfin : Below w.heap.size w w1 := box_below hbx
            have cS : ∀ dd os, Calls Tryd.prog 60 #[.agg #[.int .i64 (bs[t]'htl).1, .int .i64 (bs[t]'htl).2.1, .int .i64 (bs[t]'htl).2.2.1, .int .i64 (bs[t]'htl).2.2.2.1, .int .i64 (bs[t]'htl).2.2.2.2.1, .int .i64 (bs[t]'htl).2.2.2.2.2], .agg #[.int .i64 (bs[k]'hlt).1, .int .i64 (bs[k]'hlt).2.1, .int .i64 (bs[k]'hlt).2.2.1, .int .i64 (bs[k]'hlt).2.2.2.1, .int .i64 (bs[k]'hlt).2.2.2.2.1, .int .i64 (bs[k]'hlt).2.2.2.2.2]] (grow (redrawn wr dd) os) (fun e w'' => e = .returned (.bool true) ∧ ∃ p : Regrown, w'' = grow (redrawn wr p.d) p.os) := fun dd os => Calls.regrown_of (shares_yes (bs[t]'htl) (bs[k]'hlt) _ hsh)
            have g0 := cell_regrown v0
            have g1 := cell_regrown v1
            have g2 := cell_regrown v2
            have g3 := cell_regrown v3
            have g4 := cell_regrown v4
            have g5 := cell_regrown v5
            have t0 := cell_regrown r0
            have t1 := cell_regrown r1
            have t2 := cell_regrown r2
            have t3 := cell_regrown r3
            have t4 := cell_regrown r4
            have t5 := cell_regrown r5
            clear v0 v1 v2 v3 v4 v5 r0 r1 r2 r3 r4 r5 hsh f0 f1 f2 f3 f4 f5
            go_wp2
            refine wp_region_wq (by kernel_rfl) (by kernel_rfl) ?_
            refine WQ.want (by kernel_rfl) (fun K hK => ?_)
            go_simp
            refine hK _ ?_
            clear hK K
            refine WQ.want (by kernel_rfl) (fun K hK => ?_)
            go_simp
            refine hK _ ?_
            clear hK K
            refine WQ.want (by kernel_rfl) (fun K hK => ?_)
            go_simp
            refine hK _ ?_
            clear hK K
            refine WQ.want (by kernel_rfl) (fun K hK => ?_)
            go_simp
            refine hK _ ?_
            clear hK K
            refine WQ.want (by kernel_rfl) (fun K hK => ?_)
            go_simp
            refine hK _ ?_
            clear hK K
            refine WQ.want (by kernel_rfl) (fun K hK => ?_)
            go_simp
            refine ⟨_, fun _ => cS _ _, hK _ ?_⟩
            clear hK K
            refine WQ.nil ?_
            intro _ hw'
            obtain ⟨⟨dq, osq⟩, hw''⟩ := hw'
            subst hw''
            have hb3 := hb2.trans ((below_regrown wr dq osq).mono (by have := hb2.size; simpa using this))
            clear hb2 g0 g1 g2 g3 g4 g5 t0 t1 t2 t3 t4 t5 cS
            generalize grow (redrawn wr dq) osq = w3 at hb3 ⊢
            go_wp2
            go_ret
            exact ⟨.inr ⟨HF.out, rfl⟩, (hfin.trans (hB.mono hfin.size)).trans ((box_below hb3).mono (by omega))⟩
          · have HN1 : Hid (NoneTo bs k (t + 1)) := fun u hu hk2 h1 => by
              by_cases e : u = t
              · subst e; exact hsh
              · exact HNO.out u hu hk2 (by omega)
            have cS : ∀ dd os, Calls Tryd.prog 60 #[.agg #[.int .i64 (bs[t]'htl).1, .int .i64 (bs[t]'htl).2.1, .int .i64 (bs[t]'htl).2.2.1, .int .i64 (bs[t]'htl).2.2.2.1, .int .i64 (bs[t]'htl).2.2.2.2.1, .int .i64 (bs[t]'htl).2.2.2.2.2], .agg #[.int .i64 (bs[k]'hlt).1, .int .i64 (bs[k]'hlt).2.1, .int .i64 (bs[k]'hlt).2.2.1, .int .i64 (bs[k]'hlt).2.2.2.1, .int .i64 (bs[k]'hlt).2.2.2.2.1, .int .i64 (bs[k]'hlt).2.2.2.2.2]] (grow (redrawn wr dd) os) (fun e w'' => e = .returned (.bool false) ∧ ∃ p : Regrown, w'' = grow (redrawn wr p.d) p.os) := fun dd os => Calls.regrown_of (shares_no (bs[t]'htl) (bs[k]'hlt) _ hsh)
            have g0 := cell_regrown v0
            have g1 := cell_regrown v1
            have g2 := cell_regrown v2
            have g3 := cell_regrown v3
            have g4 := cell_regrown v4
            have g5 := cell_regrown v5
            have t0 := cell_regrown r0
            have t1 := cell_regrown r1
            have t2 := cell_regrown r2
            have t3 := cell_regrown r3
            have t4 := cell_regrown r4
            have t5 := cell_regrown r5
            clear v0 v1 v2 v3 v4 v5 r0 r1 r2 r3 r4 r5 hsh f0 f1 f2 f3 f4 f5
            go_wp2
            refine wp_region_wq (by kernel_rfl) (by kernel_rfl) ?_
            refine WQ.want (by kernel_rfl) (fun K hK => ?_)
            go_simp
            refine hK _ ?_
            clear hK K
            refine WQ.want (by kernel_rfl) (fun K hK => ?_)
            go_simp
            refine hK _ ?_
            clear hK K
            refine WQ.want (by kernel_rfl) (fun K hK => ?_)
            go_simp
            refine hK _ ?_
            clear hK K
            refine WQ.want (by kernel_rfl) (fun K hK => ?_)
            go_simp
            refine hK _ ?_
            clear hK K
            refine WQ.want (by kernel_rfl) (fun K hK => ?_)
            go_simp
            refine hK _ ?_
            clear hK K
            refine WQ.want (by kernel_rfl) (fun K hK => ?_)
            go_simp
            refine ⟨_, fun _ => cS _ _, hK _ ?_⟩
            clear hK K
            refine WQ.nil ?_
            intro _ hw'
            obtain ⟨⟨dq, osq⟩, hw''⟩ := hw'
            subst hw''
            have hb3 := hb2.trans ((below_regrown wr dq osq).mono (by have := hb2.size; simpa using this))
            clear hb2 g0 g1 g2 g3 g4 g5 t0 t1 t2 t3 t4 t5 cS
            generalize grow (redrawn wr dq) osq = w3 at hb3 ⊢
            go_wp2
            go_roundw
            case rel => exact ⟨t + 1, by omega, by go_num, HN1, hb3⟩
            case measure => simp [intOf]; omega
        · have hte : t = k := by omega
          subst hte
          have HA1 : Hid (Apart (bs.take (t + 1))) := apart_next hlt HAP.out hno.out
          have hb3 : Below w1.heap.size w1 wr := hBw
          clear hno
          go_wp2
          go_roundw
          case rel => exact ⟨t + 1, by omega, by go_num, by rw [HSUM.out], HA1, hb3⟩
          case measure => simp [intOf]; omega
    · have hke : k = bs.length := by omega
      subst hke
      have y0 := box_cell hBX 0
      have y1 := box_cell hBX 1
      have y2 := box_cell hBX 2
      simp at y0 y1 y2
      have HAP : Hid (Apart bs) := by have := hap.out; rwa [List.take_length] at this
      have hsum := volsS_bd hW.2 hH.2 hL.2 bs HOK.out
      rw [List.take_length]
      have hs3 : (bs.map vol).sum ≤ 40000 := by omega
      obtain ⟨hs1, hs2⟩ := hsum
      have hfin : Below w.heap.size w wr := box_below hBX
      clear hap hs2
      by_cases he : (bs.map vol).sum = W * H * L
      · have HY : Hid (Covers W H L bs) := HCV.out.2 ⟨HAP.out, he⟩
        have heB : ((bs.map vol).sum == W * H * L) = true := by simp [he]
        clear he HCV
        generalize (bs.map vol).sum = sm at *
        go_wp2
        go_ret
        exact ⟨.inl ⟨HY.out, by first | rfl | simp [*]⟩, hfin⟩
      · have HY : Hid (¬ Covers W H L bs) := fun h => he (HCV.out.1 h).2
        have heB : ((bs.map vol).sum == W * H * L) = false := by simp [he]
        clear he HCV
        generalize (bs.map vol).sum = sm at *
        go_wp2
        go_ret
        exact ⟨.inr ⟨HY.out, by first | rfl | simp [*]⟩, hfin⟩

end Go.Proofs.YthkpjljhjdjbfaaDoor
