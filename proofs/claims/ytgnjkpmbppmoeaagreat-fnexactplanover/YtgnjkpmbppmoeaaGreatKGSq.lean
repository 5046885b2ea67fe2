/- DERIVED. spec.l17Leg at every two cells that have legs (written by wip/tools/mk_sq.py). -/
import Derived.Test.YtgnjkpmbppmoeaaGreatKSq1
import Derived.Test.YtgnjkpmbppmoeaaGreatKGPs
namespace Go.Proofs.YtgnjkpmbppmoeaaGreat
namespace Pcl
open Go.RowKit Leg
set_option linter.unusedSimpArgs false
set_option linter.unusedVariables false

theorem vpc_at (l : List DCell) (i : Nat) (h : i < l.length) : (valsPlanCell l)[i * 2]? = some (.int .i64 (l[i]'h).1) ∧ (valsPlanCell l)[i * 2 + 1]? = some (.int .i64 (l[i]'h).2) := by
  induction l generalizing i with
  | nil => simp at h
  | cons c l ih =>
    cases i with
    | zero => simp [valsPlanCell]
    | succ i =>
      have := ih i (by simpa using h)
      rw [show (i + 1) * 2 = i * 2 + 1 + 1 by omega]
      simpa [valsPlanCell] using this
/-- The cells of a row that a slice owns. -/
theorem owned_cell {W : World} {base e : Nat} {g n cap : Nat} {l : List DCell} (h : W.ownsRow base e 2 (.slice (some ⟨g, 0, none⟩) n cap) n (valsPlanCell l)) (i : Nat) (hi : i < l.length) :
    W.cell? ⟨g, i * 2, none⟩ = some (.int .i64 (l[i]'hi).1) ∧ W.cell? ⟨g, i * 2 + 1, none⟩ = some (.int .i64 (l[i]'hi).2) := by
  have hc := h.cells (g := g) rfl
  obtain ⟨h1, h2⟩ := vpc_at l i hi
  have e1 := hc _ _ h1
  have e2 := hc _ _ h2
  have ad : ∀ k, (⟨g, 0, none⟩ : Addr).add k = ⟨g, k, none⟩ := by
    intro k
    cases k <;> simp [Addr.add]
  rw [ad] at e1 e2
  exact ⟨e1, e2⟩
theorem owned_block {W : World} {base e : Nat} {g n cap : Nat} {l : List Value} {size : Nat} (h : W.ownsRow base e size (.slice (some ⟨g, 0, none⟩) n cap) n l) : base ≤ g ∧ g < W.heap.size ∧ n ≤ cap ∧ cap ≤ maxLen := by
  rcases h.2 with ⟨h1, _⟩ | ⟨g0, c0, cur, h1, h2, h3, h4, h5, _⟩
  · cases h1
  · cases h1
    exact ⟨h2, (Array.getElem?_eq_some_iff.1 h3).1, h4, h5⟩

theorem legUp_len (a b : DCell) : (legUp a b).length = (stepsOf a b).toNat + 1 := by simp [legUp]

set_option maxHeartbeats 2000000 in
set_option maxRecDepth 100000 in
theorem sBack (a b : DCell) (w : World) (ha : InLeg a) (hb : InLeg b) (hl : ¬ Lesser a b) :
    Calls Tryz.prog 80 #[vCe a, vCe b] w fun e w' => ∃ v, e = .returned v ∧ w'.ownsRow w.heap.size 84 2 v (legUp b a).length (valsPlanCell (legUp b a).reverse) ∧ Below w.heap.size w w' := by
  have hl' : Lesser b a := by unfold Lesser at hl ⊢; omega
  have hs := steps_le hb ha
  have hlen := legUp_len b a
  have HU := fun W => sUp b a W hb ha hl'
  obtain ⟨i0, hi, hz0, hz1, hz2⟩ := info_parts infoPC
  have hlen15 : (legUp b a).length ≤ 16 := by omega
  have hlen1 : 1 ≤ (legUp b a).length := by omega
  clear hlen hs
  generalize legUp b a = L at *
  obtain ⟨x, y⟩ := a
  obtain ⟨x', y'⟩ := b
  have hll : x' < x ∨ (x' = x ∧ y' < y) := by
    unfold Lesser at hl
    simp at hl
    omega
  simp only [vCe] at HU ⊢
  clear hl hl' ha hb
  have HL0 : BoxL w.heap.size (x, y) (x', y') (((w.alloc (.cells #[.int .i64 x, .int .i64 y] 84)).alloc (.cells #[.int .i64 x', .int .i64 y'] 84)).alloc (.cells #[] 84)) := ⟨by go_simp, by go_simp, by go_simp, by go_simp⟩
  go_enter Tryz.func80, Tryz.ntmps80
  have hor : x' < x ∨ ((x' == x) = true ∧ y' < y ∧ ¬ x' < x) := by
    rcases hll with h | h
    · exact .inl h
    · exact .inr ⟨by simp [h.1], h.2, by omega⟩
  clear hll
  rcases hor with hxl | ⟨hxb, hyl, hxl⟩
  · obtain ⟨w2, hw2⟩ : ∃ w2 : World, w2 = (((w.alloc (.cells #[.int .i64 x, .int .i64 y] 84)).alloc (.cells #[.int .i64 x', .int .i64 y'] 84)).alloc (.cells #[] 84)) := ⟨_, rfl⟩
    have hB2 : Below w.heap.size w w2 := by rw [hw2]; exact (((Below.refl w.heap.size w).alloc (Nat.le_refl _) _).alloc (by simp) _).alloc (by simp; omega) _
    have hO2 : w2.ownsRow (w.heap.size + 2) 84 2 (.slice (some ⟨w.heap.size + 1 + 1, 0, none⟩) 0 0) 0 [] := by
      rw [hw2]
      have h := empty_cells ((w.alloc (.cells #[.int .i64 x, .int .i64 y] 84)).alloc (.cells #[.int .i64 x', .int .i64 y'] 84)) 84 (w.heap.size + 2) (by simp)
      simp only [World.size_alloc] at h
      exact h
    have z2 : w.heap.size + 3 ≤ w2.heap.size := by rw [hw2]; simp
    have HUW := HU w2
    rw [hw2] at HUW
    go_wp2_with fail
    refine HUW.mono ?_
    rw [← hw2]
    rintro e w3 ⟨v3, rfl, hOL, hb3⟩
    obtain ⟨gl, cl, rfl⟩ : ∃ gl cl, v3 = .slice (some ⟨gl, 0, none⟩) L.length cl := by
      rcases hOL.2 with ⟨_, h0⟩ | ⟨g, c, _, h1, _⟩
      · omega
      · exact ⟨g, c, h1⟩
    have hB3 := hB2.trans (hb3.mono (by omega))
    have hO3 := hO2.kept (grown_bel none hb3) (.inr (by simp [Value.ownBlock]))
    obtain ⟨hgl, hgl2, hcl, hcm⟩ := owned_block hOL
    have z3 := hb3.size
    have hcI : (L.length : Int) ≤ 16 := by omega
    clear HU HUW hw2 hb3 hB2 hO2
    go_wp2_with fail
    go_loopw [5, 7] (fun v i wr => ∃ j g cap : Nat, j ≤ L.length ∧ i = .int .i64 ((L.length : Int) - 1 - (j : Int)) ∧ v = .slice (some ⟨g, 0, none⟩) j cap ∧ g ≠ gl ∧ wr.ownsRow (w.heap.size + 2) 84 2 (.slice (some ⟨g, 0, none⟩) j cap) j (valsPlanCell (L.reverse.take j)) ∧ wr.ownsRow w2.heap.size 84 2 (.slice (some ⟨gl, 0, none⟩) L.length cl) L.length (valsPlanCell L) ∧ Below w.heap.size w wr ∧ w2.heap.size ≤ wr.heap.size) (fun _ i _ => (intOf i + 1).toNat)
    case atStart => exact ⟨0, w.heap.size + 1 + 1, 0, by omega, by go_num, rfl, by omega, by simpa [valsPlanCell] using hO3, hOL, hB3, by omega⟩
    case round =>
      obtain ⟨j, g, cap, hj, rfl, rfl, hgne, hown, hOLr, hB, hsz⟩ := hrel
      by_cases hlt : j < L.length
      · obtain ⟨hga, hgb, hgc, hgd⟩ := owned_block hown
        have hgl3 := (owned_block hOLr).2.1
        have hk : L.length - 1 - j < L.length := by omega
        obtain ⟨d0, d1⟩ := owned_cell hOLr (L.length - 1 - j) hk
        have HR : Hid (L.reverse.take (j + 1) = L.reverse.take j ++ [L[L.length - 1 - j]'hk]) := by
          show _ = _
          rw [List.take_succ_eq_append_getElem (by simpa using hlt), List.getElem_reverse]
        obtain ⟨ix, hix⟩ : ∃ ix : Nat, ix = L.length - 1 - j := ⟨_, rfl⟩
        have hixI : (L.length : Int) - 1 - (j : Int) = (ix : Int) := by omega
        have hixl : ix < L.length := by omega
        obtain ⟨c, hc⟩ : ∃ c, c = L[L.length - 1 - j]'hk := ⟨_, rfl⟩
        rw [← hc] at d0 d1 HR
        rw [← hix] at d0 d1
        clear hc hk
        obtain ⟨cx, cy⟩ := c
        simp only at d0 d1
        have hixI2 : (ix : Int) < (L.length : Int) := by omega
        have hje : Hid (ix = L.length - 1 - j) := hix
        rw [hixI]
        clear hixI hix
        go_wp2_with (at_builtin; refine wpList_append_own_at _ rfl _ _ 78 rfl (w.heap.size + 2) 84 i0 (.agg #[.int .i64 0, .int .i64 0]) 2 16 Tryz.underlying78 hi hz0 hz1 hz2 rfl (by decide) _ _ _ rfl (hown.alloc _) ⟨wr.heap.size, 0, none⟩ 1 1 [.int .i64 cx, .int .i64 cy] rfl rfl ?c1 ?c2 ?c3 ?c4 ?c5 ?_)
        case c1 =>
          intro j u hj
          match j, hj with
          | 0, hj => simp at hj; subst hj; simp [Addr.add]
          | 1, hj => simp at hj; subst hj; simp [Addr.add]
        case c2 =>
          intro u hu
          simp at hu
          rcases hu with rfl | rfl <;> rfl
        case c3 => unfold maxLen; omega
        case c4 => omega
        case c5 => simp; omega
        intro v' w6 hown' hgrow _ hat
        obtain ⟨g', cap', rfl⟩ := owns_pos hown'
        have hg' : g' ≠ gl := by
          simp [Value.ownBlock] at hat
          omega
        have hOL6 := (hOLr.alloc (.cells #[.int .i64 cx, .int .i64 cy] 84)).kept hgrow (.inr (by simp [Value.ownBlock]; omega))
        have hB6 : Below w.heap.size wr w6 := ((Below.refl _ wr).alloc (by omega) _).grown hgrow (by simp; omega) (by intro k hk; simp [Value.ownBlock] at hk; omega)
        have hO6 : w6.ownsRow (w.heap.size + 2) 84 2 (.slice (some ⟨g', 0, none⟩) (j + 1) cap') (j + 1) (valsPlanCell (L.reverse.take (j + 1))) := by
          rw [HR.out, valsPlanCell_snoc]
          exact hown'
        have z6 := hB6.size
        have hB7 := hB.trans hB6
        clear hown hown' hgrow hat hOLr hB6 hB d0 d1 HR
        go_wp2
        go_roundw
        case rel => exact ⟨j + 1, g', cap', by omega, by have := hje.out; go_num, rfl, hg', hO6, hOL6, hB7, by omega⟩
        case measure => simp [intOf]
      · have hje : j = L.length := by omega
        subst hje
        have HFin : Hid (wr.ownsRow w.heap.size 84 2 (.slice (some ⟨g, 0, none⟩) L.length cap) L.length (valsPlanCell L.reverse)) := by
          have h := own_lo hown (show w.heap.size ≤ w.heap.size + 2 by omega)
          rwa [List.take_of_length_le (by simp)] at h
        clear hown hOLr
        go_wp2
        go_ret
        exact ⟨.slice (some ⟨g, 0, none⟩) L.length cap, rfl, HFin.out, hB⟩
  · obtain ⟨w2, hw2⟩ : ∃ w2 : World, w2 = (((w.alloc (.cells #[.int .i64 x, .int .i64 y] 84)).alloc (.cells #[.int .i64 x', .int .i64 y'] 84)).alloc (.cells #[] 84)) := ⟨_, rfl⟩
    have hB2 : Below w.heap.size w w2 := by rw [hw2]; exact (((Below.refl w.heap.size w).alloc (Nat.le_refl _) _).alloc (by simp) _).alloc (by simp; omega) _
    have hO2 : w2.ownsRow (w.heap.size + 2) 84 2 (.slice (some ⟨w.heap.size + 1 + 1, 0, none⟩) 0 0) 0 [] := by
      rw [hw2]
      have h := empty_cells ((w.alloc (.cells #[.int .i64 x, .int .i64 y] 84)).alloc (.cells #[.int .i64 x', .int .i64 y'] 84)) 84 (w.heap.size + 2) (by simp)
      simp only [World.size_alloc] at h
      exact h
    have z2 : w.heap.size + 3 ≤ w2.heap.size := by rw [hw2]; simp
    have HUW := HU w2
    rw [hw2] at HUW
    go_wp2_with fail
    refine HUW.mono ?_
    rw [← hw2]
    rintro e w3 ⟨v3, rfl, hOL, hb3⟩
    obtain ⟨gl, cl, rfl⟩ : ∃ gl cl, v3 = .slice (some ⟨gl, 0, none⟩) L.length cl := by
      rcases hOL.2 with ⟨_, h0⟩ | ⟨g, c, _, h1, _⟩
      · omega
      · exact ⟨g, c, h1⟩
    have hB3 := hB2.trans (hb3.mono (by omega))
    have hO3 := hO2.kept (grown_bel none hb3) (.inr (by simp [Value.ownBlock]))
    obtain ⟨hgl, hgl2, hcl, hcm⟩ := owned_block hOL
    have z3 := hb3.size
    have hcI : (L.length : Int) ≤ 16 := by omega
    clear HU HUW hw2 hb3 hB2 hO2
    go_wp2_with fail
    go_loopw [5, 7] (fun v i wr => ∃ j g cap : Nat, j ≤ L.length ∧ i = .int .i64 ((L.length : Int) - 1 - (j : Int)) ∧ v = .slice (some ⟨g, 0, none⟩) j cap ∧ g ≠ gl ∧ wr.ownsRow (w.heap.size + 2) 84 2 (.slice (some ⟨g, 0, none⟩) j cap) j (valsPlanCell (L.reverse.take j)) ∧ wr.ownsRow w2.heap.size 84 2 (.slice (some ⟨gl, 0, none⟩) L.length cl) L.length (valsPlanCell L) ∧ Below w.heap.size w wr ∧ w2.heap.size ≤ wr.heap.size) (fun _ i _ => (intOf i + 1).toNat)
    case atStart => exact ⟨0, w.heap.size + 1 + 1, 0, by omega, by go_num, rfl, by omega, by simpa [valsPlanCell] using hO3, hOL, hB3, by omega⟩
    case round =>
      obtain ⟨j, g, cap, hj, rfl, rfl, hgne, hown, hOLr, hB, hsz⟩ := hrel
      by_cases hlt : j < L.length
      · obtain ⟨hga, hgb, hgc, hgd⟩ := owned_block hown
        have hgl3 := (owned_block hOLr).2.1
        have hk : L.length - 1 - j < L.length := by omega
        obtain ⟨d0, d1⟩ := owned_cell hOLr (L.length - 1 - j) hk
        have HR : Hid (L.reverse.take (j + 1) = L.reverse.take j ++ [L[L.length - 1 - j]'hk]) := by
          show _ = _
          rw [List.take_succ_eq_append_getElem (by simpa using hlt), List.getElem_reverse]
        obtain ⟨ix, hix⟩ : ∃ ix : Nat, ix = L.length - 1 - j := ⟨_, rfl⟩
        have hixI : (L.length : Int) - 1 - (j : Int) = (ix : Int) := by omega
        have hixl : ix < L.length := by omega
        obtain ⟨c, hc⟩ : ∃ c, c = L[L.length - 1 - j]'hk := ⟨_, rfl⟩
        rw [← hc] at d0 d1 HR
        rw [← hix] at d0 d1
        clear hc hk
        obtain ⟨cx, cy⟩ := c
        simp only at d0 d1
        have hixI2 : (ix : Int) < (L.length : Int) := by omega
        have hje : Hid (ix = L.length - 1 - j) := hix
        rw [hixI]
        clear hixI hix
        go_wp2_with (at_builtin; refine wpList_append_own_at _ rfl _ _ 78 rfl (w.heap.size + 2) 84 i0 (.agg #[.int .i64 0, .int .i64 0]) 2 16 Tryz.underlying78 hi hz0 hz1 hz2 rfl (by decide) _ _ _ rfl (hown.alloc _) ⟨wr.heap.size, 0, none⟩ 1 1 [.int .i64 cx, .int .i64 cy] rfl rfl ?d1 ?d2 ?d3 ?d4 ?d5 ?_)
        case d1 =>
          intro j u hj
          match j, hj with
          | 0, hj => simp at hj; subst hj; simp [Addr.add]
          | 1, hj => simp at hj; subst hj; simp [Addr.add]
        case d2 =>
          intro u hu
          simp at hu
          rcases hu with rfl | rfl <;> rfl
        case d3 => unfold maxLen; omega
        case d4 => omega
        case d5 => simp; omega
        intro v' w6 hown' hgrow _ hat
        obtain ⟨g', cap', rfl⟩ := owns_pos hown'
        have hg' : g' ≠ gl := by
          simp [Value.ownBlock] at hat
          omega
        have hOL6 := (hOLr.alloc (.cells #[.int .i64 cx, .int .i64 cy] 84)).kept hgrow (.inr (by simp [Value.ownBlock]; omega))
        have hB6 : Below w.heap.size wr w6 := ((Below.refl _ wr).alloc (by omega) _).grown hgrow (by simp; omega) (by intro k hk; simp [Value.ownBlock] at hk; omega)
        have hO6 : w6.ownsRow (w.heap.size + 2) 84 2 (.slice (some ⟨g', 0, none⟩) (j + 1) cap') (j + 1) (valsPlanCell (L.reverse.take (j + 1))) := by
          rw [HR.out, valsPlanCell_snoc]
          exact hown'
        have z6 := hB6.size
        have hB7 := hB.trans hB6
        clear hown hown' hgrow hat hOLr hB6 hB d0 d1 HR
        go_wp2
        go_roundw
        case rel => exact ⟨j + 1, g', cap', by omega, by have := hje.out; go_num, rfl, hg', hO6, hOL6, hB7, by omega⟩
        case measure => simp [intOf]
      · have hje : j = L.length := by omega
        subst hje
        have HFin : Hid (wr.ownsRow w.heap.size 84 2 (.slice (some ⟨g, 0, none⟩) L.length cap) L.length (valsPlanCell L.reverse)) := by
          have h := own_lo hown (show w.heap.size ≤ w.heap.size + 2 by omega)
          rwa [List.take_of_length_le (by simp)] at h
        clear hown hOLr
        go_wp2
        go_ret
        exact ⟨.slice (some ⟨g, 0, none⟩) L.length cap, rfl, HFin.out, hB⟩
theorem sLeg17 (a b : DCell) (w : World) (ha : InLeg a) (hb : InLeg b) :
    Calls Tryz.prog 80 #[vCe a, vCe b] w fun e w' => ∃ v, e = .returned v ∧ w'.ownsRow w.heap.size 84 2 v (legOf a b).length (valsPlanCell (legOf a b)) ∧ Below w.heap.size w w' := by
  by_cases h : Lesser a b
  · rw [show legOf a b = legUp a b by simp [legOf, ha, hb, h]]
    exact sUp a b w ha hb h
  · rw [show legOf a b = (legUp b a).reverse by simp [legOf, ha, hb, h], List.length_reverse]
    exact sBack a b w ha hb h

end Pcl
end Go.Proofs.YtgnjkpmbppmoeaaGreat

/- DERIVED. spec.l17At: its walk. -/
namespace Go.Proofs.YtgnjkpmbppmoeaaGreat
namespace Pcl
open Go.RowKit Leg
set_option linter.unusedSimpArgs false
set_option linter.unusedVariables false

/-- The base's box, and the point that is wanted. -/
def AtC (B b1 o : Nat) (v0 v1 : Value) (n : ByteArray) (px py : Int) (W : World) : Prop :=
  W.cell? ⟨B, 0, none⟩ = some v0 ∧ W.cell? ⟨B, 1, none⟩ = some v1 ∧ W.cell? ⟨b1, o, none⟩ = some (.string n) ∧ W.cell? ⟨b1, o + 1, none⟩ = some (.int .i64 px) ∧ W.cell? ⟨b1, o + 2, none⟩ = some (.int .i64 py)
theorem AtC.below {B b1 o m : Nat} {v0 v1 : Value} {n : ByteArray} {px py : Int} {W W' : World} (h : AtC B b1 o v0 v1 n px py W) (hb : Below m W W') (h1 : B < m) (h2 : b1 < m) : AtC B b1 o v0 v1 n px py W' := by
  obtain ⟨a, b, c, d, e⟩ := h
  exact ⟨(hb.cell (p := ⟨B, _, none⟩) h1).trans a, (hb.cell (p := ⟨B, _, none⟩) h1).trans b, (hb.cell (p := ⟨b1, _, none⟩) h2).trans c, (hb.cell (p := ⟨b1, _, none⟩) h2).trans d, (hb.cell (p := ⟨b1, _, none⟩) h2).trans e⟩

set_option maxRecDepth 100000 in
set_option maxHeartbeats 8000000 in
theorem sAt (x : DPlanBase) (ao0 : Option Addr) (cap0 : Nat) (ao1 : Option Addr) (cap1 : Nat) (v : ByteArray) (w : World) (h : BaseAt w x ao0 cap0 ao1 cap1) (hh : HasNm nmP x.2 v) :
    Calls Tryz.prog 79 #[.agg #[.slice ao0 x.1.length cap0, .slice ao1 x.2.length cap1], .string v] w fun e w' => e = .returned (vCe (endAt x.2 v)) ∧ Below w.heap.size w w' := by
  obtain ⟨k, hk, hno, hke⟩ : ∃ j, ∃ h : j < x.2.length, NoNm nmP x.2 v j ∧ nmP (x.2[j]'h) = v := by
    rcases idxTo_cases nmP x.2 v x.2.length (Nat.le_refl _) with h1 | h1
    · exact absurd hh h1.all
    · exact h1
  have HP := fun W (hW : BaseAt W x ao0 cap0 ao1 cap1) => sPlanPoint x ao0 cap0 ao1 cap1 v W hW
  rw [idxOf_hit hno hk hke] at HP
  have hE : endAt x.2 v = ((x.2[k]'hk).2.1, (x.2[k]'hk).2.2) := by unfold endAt; rw [findD_hit hno hk hke]
  rw [hE]
  have hkI : (k : Int) < (x.2.length : Int) := by omega
  obtain ⟨b1, off, hao, hok, c0, c1, c2, q0, _⟩ := elem_PlanPoint h.p1 hk
  subst hao
  generalize x.2[k]'hk = p at *
  obtain ⟨n, px, py⟩ := p
  simp only [vCe] at *
  clear hno hke hE hh q0
  have hb0 : Below w.heap.size w ((w.alloc (.cells #[.slice ao0 x.1.length cap0, .slice (some ⟨b1, off, none⟩) x.2.length cap1] 40)).alloc (.cells #[.int .i64 0, .int .i64 0] 84)) := ((Below.refl _ _).alloc (Nat.le_refl _) _).alloc (by simp) _
  go_enter Tryz.func79, Tryz.ntmps79
  go_wp2_with fail
  obtain ⟨w0, hw0⟩ : ∃ w0 : World, w0 = ((w.alloc (.cells #[.slice ao0 x.1.length cap0, .slice (some ⟨b1, off, none⟩) x.2.length cap1] 40)).alloc (.cells #[.int .i64 0, .int .i64 0] 84)).drew := ⟨_, rfl⟩
  have hBD : Below w.heap.size w w0 := by rw [hw0]; exact hb0.drew
  have hz0 : w0.heap.size = w.heap.size + 2 := by rw [hw0]; simp
  have r0 : w0.cell? ⟨w.heap.size + 1, 0, none⟩ = some (.int .i64 0) := by rw [hw0]; go_simp
  have r1 : w0.cell? ⟨w.heap.size + 1, 1, none⟩ = some (.int .i64 0) := by rw [hw0]; go_simp
  have t0 : w0.frozen? ⟨w.heap.size + 1, 0, none⟩ = false := by rw [hw0]; go_simp
  have t1 : w0.frozen? ⟨w.heap.size + 1, 1, none⟩ = false := by rw [hw0]; go_simp
  have HC0 : AtC w.heap.size b1 (off + k * 3) (.slice ao0 x.1.length cap0) (.slice (some ⟨b1, off, none⟩) x.2.length cap1) n px py w0 := ⟨by rw [hw0]; go_simp, by rw [hw0]; go_simp, (hBD.cell (p := ⟨b1, _, none⟩) hok).trans c0, (hBD.cell (p := ⟨b1, _, none⟩) hok).trans c1, (hBD.cell (p := ⟨b1, _, none⟩) hok).trans c2⟩
  have hBA : Below w0.heap.size w0 (w0.alloc (.cells #[.string ⟨#[]⟩, .int .i64 0, .int .i64 0] 93)) := (Below.refl _ _).alloc (Nat.le_refl _) _
  have hok1 : b1 < w.heap.size := hok
  have HC1 := HC0.below hBA (by omega) (by omega)
  have HP0 := HP w0 (h.later hBD)
  have HPA := HP _ (h.later (hBD.trans (hBA.mono (by omega))))
  clear HP h c0 c1 c2 hok hb0
  refine wp_region_RC (AtC w.heap.size b1 (off + k * 3) (.slice ao0 x.1.length cap0) (.slice (some ⟨b1, off, none⟩) x.2.length cap1) n px py) mixedP ?_
  rw [← hw0]
  clear hw0
  refine RC.take (i := 0) (v := .pointer (some ⟨w.heap.size, 1, none⟩)) rfl (by kernel_rfl) (by kernel_rfl) (by kernel_rfl) (fun _ _ _ h => h) HC0 (by kernel_rfl) ?ya0 ?ra0
  case ya0 => (intro W hW; obtain ⟨q0, q1, q2, q3, q4⟩ := hW; clear HC0 HC1; go_simp)
  refine RC.take (i := 1) (v := .slice (some ⟨b1, off, none⟩) x.2.length cap1) rfl (by kernel_rfl) (by kernel_rfl) (by kernel_rfl) (fun _ _ _ h => h) HC0 (by kernel_rfl) ?ya1 ?ra1
  case ya1 => (intro W hW; obtain ⟨q0, q1, q2, q3, q4⟩ := hW; clear HC0 HC1; go_simp)
  refine RC.take (i := 2) (v := .agg #[.slice ao0 x.1.length cap0, .slice (some ⟨b1, off, none⟩) x.2.length cap1]) rfl (by kernel_rfl) (by kernel_rfl) (by kernel_rfl) (fun _ _ _ h => h) HC0 (by kernel_rfl) ?ya2 ?ra2
  case ya2 => (intro W hW; obtain ⟨q0, q1, q2, q3, q4⟩ := hW; clear HC0 HC1; go_simp)
  refine RC.take (i := 3) (v := .string v) rfl (by kernel_rfl) (by kernel_rfl) (by kernel_rfl) (fun _ _ _ h => h) HC0 (by kernel_rfl) ?ya3 ?ra3
  case ya3 => (intro W hW; obtain ⟨q0, q1, q2, q3, q4⟩ := hW; clear HC0 HC1; go_simp)
  refine RC.two (i := 4) (k := 7) (by kernel_rfl) rfl rfl (fun K hK => ?_) (fun K hK => ?_)
  · rw [if_pos (by kernel_rfl)]
    go_simp
    refine HP0.mono ?_
    rintro e w1 ⟨rfl, hb1⟩
    simp only
    have HCw := HC0.below hb1 (by omega) (by omega)
    refine hK _ _ HCw ?_
    clear hK K HP0 HPA HC1 HC0
    have HC0 := HCw
    have HC1 := HCw
    clear HCw
    refine RC.take (i := 5) (v := .pointer (some ⟨b1, off + k * 3, none⟩)) rfl (by kernel_rfl) (by kernel_rfl) (by kernel_rfl) (fun _ _ _ h => h) HC0 (by kernel_rfl) ?yb5 ?rb5
    case yb5 => (intro W hW; obtain ⟨q0, q1, q2, q3, q4⟩ := hW; clear HC0 HC1; go_simp)
    refine RC.take (i := 6) (v := .agg #[.string n, .int .i64 px, .int .i64 py]) rfl (by kernel_rfl) (by kernel_rfl) (by kernel_rfl) (fun _ _ _ h => h) HC0 (by kernel_rfl) ?yb6 ?rb6
    case yb6 => (intro W hW; obtain ⟨q0, q1, q2, q3, q4⟩ := hW; clear HC0 HC1; go_simp)
    refine RC.want (i := 7) (by kernel_rfl) rfl (by kernel_rfl) (fun K hK => ?_)
    go_simp
    have hz1 := hb1.size
    have HCv := HC0.below ((Below.refl w1.heap.size w1).alloc (Nat.le_refl _) (.cells #[.string ByteArray.empty, .int .i64 0, .int .i64 0] 93)) (by omega) (by omega)
    refine hK _ _ HCv ?_
    clear hK K HCv
    have R0 := (hb1.cell (p := ⟨w.heap.size + 1, 0, none⟩) (by show w.heap.size + 1 < _; omega)).trans r0
    have R1 := (hb1.cell (p := ⟨w.heap.size + 1, 1, none⟩) (by show w.heap.size + 1 < _; omega)).trans r1
    have T0 := (hb1.frozen (p := ⟨w.heap.size + 1, 0, none⟩) (by show w.heap.size + 1 < _; omega)).trans t0
    have T1 := (hb1.frozen (p := ⟨w.heap.size + 1, 1, none⟩) (by show w.heap.size + 1 < _; omega)).trans t1
    have hlt : w.heap.size + 1 < w1.heap.size := by omega
    have hne : w.heap.size + 1 ≠ w1.heap.size := by omega
    have hBW : Below w.heap.size w w1 := hBD.trans (hb1.mono (by omega))
    clear hb1 r0 r1 t0 t1 hBD hBA
    refine RC.want (i := 8) (by kernel_rfl) rfl (by kernel_rfl) (fun K hK => ?_)
    go_simp
    have HCz := HC0.below ((Below.refl w1.heap.size w1).alloc (Nat.le_refl _) (.cells #[.string n, .int .i64 px, .int .i64 py] 93)) (by omega) (by omega)
    refine hK _ _ HCz ?_
    clear hK K
    refine RC.done (by kernel_rfl) ?_
    clear HC0 HC1 HCz
    go_wp2
    refine bodyPost_ret (v := .agg #[.int .i64 px, .int .i64 py]) (by simp [results, Tryz.results79, go_sem, R0, R1, T0, T1, hlt]) rfl ⟨rfl, ?_⟩
    repeat (first | exact hBW | refine Below.setCell ?_ (by first | (simp; done) | omega | (simp; omega)) _ | refine Below.alloc ?_ (by first | (simp; done) | omega | (simp; omega)) _)
  · rw [if_pos (by kernel_rfl)]
    go_simp
    refine hK _ _ HC1 ?_
    clear hK K HP0 HC0
    obtain ⟨wa, hwa⟩ : ∃ wa : World, wa = w0.alloc (.cells #[.string ⟨#[]⟩, .int .i64 0, .int .i64 0] 93) := ⟨_, rfl⟩
    have y0 : wa.cell? ⟨w.heap.size + 2, 0, none⟩ = some (.string ⟨#[]⟩) := by rw [hwa, ← hz0]; go_simp
    have y1 : wa.cell? ⟨w.heap.size + 2, 1, none⟩ = some (.int .i64 0) := by rw [hwa, ← hz0]; go_simp
    have y2 : wa.cell? ⟨w.heap.size + 2, 2, none⟩ = some (.int .i64 0) := by rw [hwa, ← hz0]; go_simp
    have x0 : ∀ o, wa.frozen? ⟨w.heap.size + 2, o, none⟩ = false := fun o => by rw [hwa, ← hz0]; go_simp
    have hza : wa.heap.size = w0.heap.size + 1 := by rw [hwa]; simp
    have hBa : Below w.heap.size w wa := by rw [hwa]; exact hBD.alloc (by omega) _
    have R0 : wa.cell? ⟨w.heap.size + 1, 0, none⟩ = some (.int .i64 0) := (by rw [hwa]; exact (hBA.cell (p := ⟨w.heap.size + 1, 0, none⟩) (by show w.heap.size + 1 < _; omega)).trans r0)
    have R1 : wa.cell? ⟨w.heap.size + 1, 1, none⟩ = some (.int .i64 0) := (by rw [hwa]; exact (hBA.cell (p := ⟨w.heap.size + 1, 1, none⟩) (by show w.heap.size + 1 < _; omega)).trans r1)
    have T0 : wa.frozen? ⟨w.heap.size + 1, 0, none⟩ = false := (by rw [hwa]; exact (hBA.frozen (p := ⟨w.heap.size + 1, 0, none⟩) (by show w.heap.size + 1 < _; omega)).trans t0)
    have T1 : wa.frozen? ⟨w.heap.size + 1, 1, none⟩ = false := (by rw [hwa]; exact (hBA.frozen (p := ⟨w.heap.size + 1, 1, none⟩) (by show w.heap.size + 1 < _; omega)).trans t1)
    rw [← hwa] at HC1 HPA ⊢
    have hza2 : w.heap.size + 3 ≤ wa.heap.size := by omega
    clear hwa hBA r0 r1 t0 t1 hBD hza hz0
    refine RC.want (i := 4) (by kernel_rfl) rfl (by kernel_rfl) (fun K hK => ?_)
    go_simp
    refine HPA.mono ?_
    rintro e w1 ⟨rfl, hb1⟩
    simp only
    have HC0 := HC1.below hb1 (by omega) (by omega)
    refine hK _ _ HC0 ?_
    clear hK K HPA
    refine RC.take (i := 5) (v := .pointer (some ⟨b1, off + k * 3, none⟩)) rfl (by kernel_rfl) (by kernel_rfl) (by kernel_rfl) (fun _ _ _ h => h) HC0 (by kernel_rfl) ?yc5 ?rc5
    case yc5 => (intro W hW; obtain ⟨q0, q1, q2, q3, q4⟩ := hW; clear HC0 HC1; go_simp)
    refine RC.take (i := 6) (v := .agg #[.string n, .int .i64 px, .int .i64 py]) rfl (by kernel_rfl) (by kernel_rfl) (by kernel_rfl) (fun _ _ _ h => h) HC0 (by kernel_rfl) ?yc6 ?rc6
    case yc6 => (intro W hW; obtain ⟨q0, q1, q2, q3, q4⟩ := hW; clear HC0 HC1; go_simp)
    have hz1 := hb1.size
    have R0 := (hb1.cell (p := ⟨w.heap.size + 1, 0, none⟩) (by show w.heap.size + 1 < _; omega)).trans R0
    have R1 := (hb1.cell (p := ⟨w.heap.size + 1, 1, none⟩) (by show w.heap.size + 1 < _; omega)).trans R1
    have T0 := (hb1.frozen (p := ⟨w.heap.size + 1, 0, none⟩) (by show w.heap.size + 1 < _; omega)).trans T0
    have T1 := (hb1.frozen (p := ⟨w.heap.size + 1, 1, none⟩) (by show w.heap.size + 1 < _; omega)).trans T1
    have Y0 := (hb1.cell (p := ⟨w.heap.size + 2, 0, none⟩) (by show w.heap.size + 2 < _; omega)).trans y0
    have Y1 := (hb1.cell (p := ⟨w.heap.size + 2, 1, none⟩) (by show w.heap.size + 2 < _; omega)).trans y1
    have Y2 := (hb1.cell (p := ⟨w.heap.size + 2, 2, none⟩) (by show w.heap.size + 2 < _; omega)).trans y2
    have X0 := (hb1.frozen (p := ⟨w.heap.size + 2, 0, none⟩) (by show w.heap.size + 2 < _; omega)).trans (x0 0)
    have X1 := (hb1.frozen (p := ⟨w.heap.size + 2, 1, none⟩) (by show w.heap.size + 2 < _; omega)).trans (x0 1)
    have X2 := (hb1.frozen (p := ⟨w.heap.size + 2, 2, none⟩) (by show w.heap.size + 2 < _; omega)).trans (x0 2)
    have hlt : w.heap.size + 1 < w1.heap.size := by omega
    have hlt2 : w.heap.size + 2 < w1.heap.size := by omega
    have hne : w.heap.size + 1 ≠ w.heap.size + 2 := by omega
    have hBW : Below w.heap.size w w1 := hBa.trans (hb1.mono (by omega))
    have HCz : AtC w.heap.size b1 (off + k * 3) (.slice ao0 x.1.length cap0) (.slice (some ⟨b1, off, none⟩) x.2.length cap1) n px py (((w1.setCell ⟨w.heap.size + 2, 0, none⟩ (.string n)).setCell ⟨w.heap.size + 2, 1, none⟩ (.int .i64 px)).setCell ⟨w.heap.size + 2, 2, none⟩ (.int .i64 py)) := HC0.below (m := w.heap.size + 2) ((((Below.refl (w.heap.size + 2) w1).setCell (p := ⟨w.heap.size + 2, 0, none⟩) (Nat.le_refl _) _).setCell (p := ⟨w.heap.size + 2, 1, none⟩) (Nat.le_refl _) _).setCell (p := ⟨w.heap.size + 2, 2, none⟩) (Nat.le_refl _) _) (by omega) (by omega)
    clear hb1 hBa x0 y0 y1 y2
    refine RC.want (i := 8) (by kernel_rfl) rfl (by kernel_rfl) (fun K hK => ?_)
    go_simp
    refine hK _ _ HCz ?_
    clear hK K
    refine RC.done (by kernel_rfl) ?_
    clear HC0 HC1 HCz
    go_wp2
    refine bodyPost_ret (v := .agg #[.int .i64 px, .int .i64 py]) (by simp [results, Tryz.results79, go_sem, R0, R1, T0, T1, hlt]) rfl ⟨rfl, ?_⟩
    repeat (first | exact hBW | refine Below.setCell ?_ (by first | (simp; done) | omega | (simp; omega)) _ | refine Below.alloc ?_ (by first | (simp; done) | omega | (simp; omega)) _)

end Pcl
end Go.Proofs.YtgnjkpmbppmoeaaGreat
