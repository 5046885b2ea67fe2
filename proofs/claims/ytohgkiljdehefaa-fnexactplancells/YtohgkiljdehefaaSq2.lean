/- DERIVED. spec.l17Leg at every two cells that have legs (written by wip/tools/mk_sq.py). -/
import Derived.Test.YtohgkiljdehefaaSq1
namespace Go.Proofs.Ytohgkiljdehefaa
namespace Pcl
open Go.RowKit Leg
set_option linter.unusedSimpArgs false
set_option linter.unusedVariables false

theorem vpc_at (l : List DCell) (i : Nat) (h : i < l.length) : (valsPlanCell l)[i * 2]? = some (.int .i64 (l[i]'h).1) ∧ (valsPlanCell l)[i * 2 + 1]? = some (.int .i64 (l[i]'h).2) := by
  induction l generalizing i with
  | nil => simp at h
  | cons c l ih =>
    cases i with
    | zero => simp [valsPlanCell]
    | succ i =>
      have := ih i (by simpa using h)
      rw [show (i + 1) * 2 = i * 2 + 1 + 1 by omega]
      simpa [valsPlanCell] using this
/-- The cells of a row that a slice owns. -/
theorem owned_cell {W : World} {base e : Nat} {g n cap : Nat} {l : List DCell} (h : W.ownsRow base e 2 (.slice (some ⟨g, 0, none⟩) n cap) n (valsPlanCell l)) (i : Nat) (hi : i < l.length) :
    W.cell? ⟨g, i * 2, none⟩ = some (.int .i64 (l[i]'hi).1) ∧ W.cell? ⟨g, i * 2 + 1, none⟩ = some (.int .i64 (l[i]'hi).2) := by
  have hc := h.cells (g := g) rfl
  obtain ⟨h1, h2⟩ := vpc_at l i hi
  have e1 := hc _ _ h1
  have e2 := hc _ _ h2
  have ad : ∀ k, (⟨g, 0, none⟩ : Addr).add k = ⟨g, k, none⟩ := by
    intro k
    cases k <;> simp [Addr.add]
  rw [ad] at e1 e2
  exact ⟨e1, e2⟩
theorem owned_block {W : World} {base e : Nat} {g n cap : Nat} {l : List Value} {size : Nat} (h : W.ownsRow base e size (.slice (some ⟨g, 0, none⟩) n cap) n l) : base ≤ g ∧ g < W.heap.size ∧ n ≤ cap ∧ cap ≤ maxLen := by
  rcases h.2 with ⟨h1, _⟩ | ⟨g0, c0, cur, h1, h2, h3, h4, h5, _⟩
  · cases h1
  · cases h1
    exact ⟨h2, (Array.getElem?_eq_some_iff.1 h3).1, h4, h5⟩

theorem legUp_len (a b : DCell) : (legUp a b).length = (stepsOf a b).toNat + 1 := by simp [legUp]

set_option maxHeartbeats 2000000 in
set_option maxRecDepth 100000 in
theorem sBack (a b : DCell) (w : World) (ha : InLeg a) (hb : InLeg b) (hl : ¬ Lesser a b) :
    Calls Try.prog 60 #[vCe a, vCe b] w fun e w' => ∃ v, e = .returned v ∧ w'.ownsRow w.heap.size 96 2 v (legUp b a).length (valsPlanCell (legUp b a).reverse) ∧ Below w.heap.size w w' := by
  have hl' : Lesser b a := by unfold Lesser at hl ⊢; omega
  have hs := steps_le hb ha
  have hlen := legUp_len b a
  have HU := fun W => sUp b a W hb ha hl'
  obtain ⟨i0, hi, hz0, hz1, hz2⟩ := info_parts infoPC
  have hlen15 : (legUp b a).length ≤ 16 := by omega
  have hlen1 : 1 ≤ (legUp b a).length := by omega
  clear hlen hs
  generalize legUp b a = L at *
  obtain ⟨x, y⟩ := a
  obtain ⟨x', y'⟩ := b
  have hll : x' < x ∨ (x' = x ∧ y' < y) := by
    unfold Lesser at hl
    simp at hl
    omega
  simp only [vCe] at HU ⊢
  clear hl hl' ha hb
  have HL0 : BoxL w.heap.size (x, y) (x', y') (((w.alloc (.cells #[.int .i64 x, .int .i64 y] 96)).alloc (.cells #[.int .i64 x', .int .i64 y'] 96)).alloc (.cells #[] 96)) := ⟨by go_simp, by go_simp, by go_simp, by go_simp⟩
  go_enter Try.func60, Try.ntmps60
  have hor : x' < x ∨ ((x' == x) = true ∧ y' < y ∧ ¬ x' < x) := by
    rcases hll with h | h
    · exact .inl h
    · exact .inr ⟨by simp [h.1], h.2, by omega⟩
  clear hll
  rcases hor with hxl | ⟨hxb, hyl, hxl⟩
  · obtain ⟨w2, hw2⟩ : ∃ w2 : World, w2 = (((w.alloc (.cells #[.int .i64 x, .int .i64 y] 96)).alloc (.cells #[.int .i64 x', .int .i64 y'] 96)).alloc (.cells #[] 96)) := ⟨_, rfl⟩
    have hB2 : Below w.heap.size w w2 := by rw [hw2]; exact (((Below.refl w.heap.size w).alloc (Nat.le_refl _) _).alloc (by simp) _).alloc (by simp; omega) _
    have hO2 : w2.ownsRow (w.heap.size + 2) 96 2 (.slice (some ⟨w.heap.size + 1 + 1, 0, none⟩) 0 0) 0 [] := by
      rw [hw2]
      have h := empty_cells ((w.alloc (.cells #[.int .i64 x, .int .i64 y] 96)).alloc (.cells #[.int .i64 x', .int .i64 y'] 96)) 96 (w.heap.size + 2) (by simp)
      simp only [World.size_alloc] at h
      exact h
    have z2 : w.heap.size + 3 ≤ w2.heap.size := by rw [hw2]; simp
    have HUW := HU w2
    rw [hw2] at HUW
    go_wp2_with fail
    refine HUW.mono ?_
    rw [← hw2]
    rintro e w3 ⟨v3, rfl, hOL, hb3⟩
    obtain ⟨gl, cl, rfl⟩ : ∃ gl cl, v3 = .slice (some ⟨gl, 0, none⟩) L.length cl := by
      rcases hOL.2 with ⟨_, h0⟩ | ⟨g, c, _, h1, _⟩
      · omega
      · exact ⟨g, c, h1⟩
    have hB3 := hB2.trans (hb3.mono (by omega))
    have hO3 := hO2.kept (grown_bel none hb3) (.inr (by simp [Value.ownBlock]))
    obtain ⟨hgl, hgl2, hcl, hcm⟩ := owned_block hOL
    have z3 := hb3.size
    have hcI : (L.length : Int) ≤ 16 := by omega
    clear HU HUW hw2 hb3 hB2 hO2
    go_wp2_with fail
    go_loopw [5, 7] (fun v i wr => ∃ j g cap : Nat, j ≤ L.length ∧ i = .int .i64 ((L.length : Int) - 1 - (j : Int)) ∧ v = .slice (some ⟨g, 0, none⟩) j cap ∧ g ≠ gl ∧ wr.ownsRow (w.heap.size + 2) 96 2 (.slice (some ⟨g, 0, none⟩) j cap) j (valsPlanCell (L.reverse.take j)) ∧ wr.ownsRow w2.heap.size 96 2 (.slice (some ⟨gl, 0, none⟩) L.length cl) L.length (valsPlanCell L) ∧ Below w.heap.size w wr ∧ w2.heap.size ≤ wr.heap.size) (fun _ i _ => (intOf i + 1).toNat)
    case atStart => exact ⟨0, w.heap.size + 1 + 1, 0, by omega, by go_num, rfl, by omega, by simpa [valsPlanCell] using hO3, hOL, hB3, by omega⟩
    case round =>
      obtain ⟨j, g, cap, hj, rfl, rfl, hgne, hown, hOLr, hB, hsz⟩ := hrel
      by_cases hlt : j < L.length
      · obtain ⟨hga, hgb, hgc, hgd⟩ := owned_block hown
        have hgl3 := (owned_block hOLr).2.1
        have hk : L.length - 1 - j < L.length := by omega
        obtain ⟨d0, d1⟩ := owned_cell hOLr (L.length - 1 - j) hk
        have HR : Hid (L.reverse.take (j + 1) = L.reverse.take j ++ [L[L.length - 1 - j]'hk]) := by
          show _ = _
          rw [List.take_succ_eq_append_getElem (by simpa using hlt), List.getElem_reverse]
        obtain ⟨ix, hix⟩ : ∃ ix : Nat, ix = L.length - 1 - j := ⟨_, rfl⟩
        have hixI : (L.length : Int) - 1 - (j : Int) = (ix : Int) := by omega
        have hixl : ix < L.length := by omega
        obtain ⟨c, hc⟩ : ∃ c, c = L[L.length - 1 - j]'hk := ⟨_, rfl⟩
        rw [← hc] at d0 d1 HR
        rw [← hix] at d0 d1
        clear hc hk
        obtain ⟨cx, cy⟩ := c
        simp only at d0 d1
        have hixI2 : (ix : Int) < (L.length : Int) := by omega
        have hje : Hid (ix = L.length - 1 - j) := hix
        rw [hixI]
        clear hixI hix
        go_wp2_with (at_builtin; refine wpList_append_own_at _ rfl _ _ 57 rfl (w.heap.size + 2) 96 i0 (.agg #[.int .i64 0, .int .i64 0]) 2 16 Try.underlying57 hi hz0 hz1 hz2 rfl (by decide) _ _ _ rfl (hown.alloc _) ⟨wr.heap.size, 0, none⟩ 1 1 [.int .i64 cx, .int .i64 cy] rfl rfl ?c1 ?c2 ?c3 ?c4 ?c5 ?_)
        case c1 =>
          intro j u hj
          match j, hj with
          | 0, hj => simp at hj; subst hj; simp [Addr.add]
          | 1, hj => simp at hj; subst hj; simp [Addr.add]
        case c2 =>
          intro u hu
          simp at hu
          rcases hu with rfl | rfl <;> rfl
        case c3 => unfold maxLen; omega
        case c4 => omega
        case c5 => simp; omega
        intro v' w6 hown' hgrow _ hat
        obtain ⟨g', cap', rfl⟩ := owns_pos hown'
        have hg' : g' ≠ gl := by
          simp [Value.ownBlock] at hat
          omega
        have hOL6 := (hOLr.alloc (.cells #[.int .i64 cx, .int .i64 cy] 96)).kept hgrow (.inr (by simp [Value.ownBlock]; omega))
        have hB6 : Below w.heap.size wr w6 := ((Below.refl _ wr).alloc (by omega) _).grown hgrow (by simp; omega) (by intro k hk; simp [Value.ownBlock] at hk; omega)
        have hO6 : w6.ownsRow (w.heap.size + 2) 96 2 (.slice (some ⟨g', 0, none⟩) (j + 1) cap') (j + 1) (valsPlanCell (L.reverse.take (j + 1))) := by
          rw [HR.out, valsPlanCell_snoc]
          exact hown'
        have z6 := hB6.size
        have hB7 := hB.trans hB6
        clear hown hown' hgrow hat hOLr hB6 hB d0 d1 HR
        go_wp2
        go_roundw
        case rel => exact ⟨j + 1, g', cap', by omega, by have := hje.out; go_num, rfl, hg', hO6, hOL6, hB7, by omega⟩
        case measure => simp [intOf]
      · have hje : j = L.length := by omega
        subst hje
        have HFin : Hid (wr.ownsRow w.heap.size 96 2 (.slice (some ⟨g, 0, none⟩) L.length cap) L.length (valsPlanCell L.reverse)) := by
          have h := own_lo hown (show w.heap.size ≤ w.heap.size + 2 by omega)
          rwa [List.take_of_length_le (by simp)] at h
        clear hown hOLr
        go_wp2
        go_ret
        exact ⟨.slice (some ⟨g, 0, none⟩) L.length cap, rfl, HFin.out, hB⟩
  · obtain ⟨w2, hw2⟩ : ∃ w2 : World, w2 = (((w.alloc (.cells #[.int .i64 x, .int .i64 y] 96)).alloc (.cells #[.int .i64 x', .int .i64 y'] 96)).alloc (.cells #[] 96)) := ⟨_, rfl⟩
    have hB2 : Below w.heap.size w w2 := by rw [hw2]; exact (((Below.refl w.heap.size w).alloc (Nat.le_refl _) _).alloc (by simp) _).alloc (by simp; omega) _
    have hO2 : w2.ownsRow (w.heap.size + 2) 96 2 (.slice (some ⟨w.heap.size + 1 + 1, 0, none⟩) 0 0) 0 [] := by
      rw [hw2]
      have h := empty_cells ((w.alloc (.cells #[.int .i64 x, .int .i64 y] 96)).alloc (.cells #[.int .i64 x', .int .i64 y'] 96)) 96 (w.heap.size + 2) (by simp)
      simp only [World.size_alloc] at h
      exact h
    have z2 : w.heap.size + 3 ≤ w2.heap.size := by rw [hw2]; simp
    have HUW := HU w2
    rw [hw2] at HUW
    go_wp2_with fail
    refine HUW.mono ?_
    rw [← hw2]
    rintro e w3 ⟨v3, rfl, hOL, hb3⟩
    obtain ⟨gl, cl, rfl⟩ : ∃ gl cl, v3 = .slice (some ⟨gl, 0, none⟩) L.length cl := by
      rcases hOL.2 with ⟨_, h0⟩ | ⟨g, c, _, h1, _⟩
      · omega
      · exact ⟨g, c, h1⟩
    have hB3 := hB2.trans (hb3.mono (by omega))
    have hO3 := hO2.kept (grown_bel none hb3) (.inr (by simp [Value.ownBlock]))
    obtain ⟨hgl, hgl2, hcl, hcm⟩ := owned_block hOL
    have z3 := hb3.size
    have hcI : (L.length : Int) ≤ 16 := by omega
    clear HU HUW hw2 hb3 hB2 hO2
    go_wp2_with fail
    go_loopw [5, 7] (fun v i wr => ∃ j g cap : Nat, j ≤ L.length ∧ i = .int .i64 ((L.length : Int) - 1 - (j : Int)) ∧ v = .slice (some ⟨g, 0, none⟩) j cap ∧ g ≠ gl ∧ wr.ownsRow (w.heap.size + 2) 96 2 (.slice (some ⟨g, 0, none⟩) j cap) j (valsPlanCell (L.reverse.take j)) ∧ wr.ownsRow w2.heap.size 96 2 (.slice (some ⟨gl, 0, none⟩) L.length cl) L.length (valsPlanCell L) ∧ Below w.heap.size w wr ∧ w2.heap.size ≤ wr.heap.size) (fun _ i _ => (intOf i + 1).toNat)
    case atStart => exact ⟨0, w.heap.size + 1 + 1, 0, by omega, by go_num, rfl, by omega, by simpa [valsPlanCell] using hO3, hOL, hB3, by omega⟩
    case round =>
      obtain ⟨j, g, cap, hj, rfl, rfl, hgne, hown, hOLr, hB, hsz⟩ := hrel
      by_cases hlt : j < L.length
      · obtain ⟨hga, hgb, hgc, hgd⟩ := owned_block hown
        have hgl3 := (owned_block hOLr).2.1
        have hk : L.length - 1 - j < L.length := by omega
        obtain ⟨d0, d1⟩ := owned_cell hOLr (L.length - 1 - j) hk
        have HR : Hid (L.reverse.take (j + 1) = L.reverse.take j ++ [L[L.length - 1 - j]'hk]) := by
          show _ = _
          rw [List.take_succ_eq_append_getElem (by simpa using hlt), List.getElem_reverse]
        obtain ⟨ix, hix⟩ : ∃ ix : Nat, ix = L.length - 1 - j := ⟨_, rfl⟩
        have hixI : (L.length : Int) - 1 - (j : Int) = (ix : Int) := by omega
        have hixl : ix < L.length := by omega
        obtain ⟨c, hc⟩ : ∃ c, c = L[L.length - 1 - j]'hk := ⟨_, rfl⟩
        rw [← hc] at d0 d1 HR
        rw [← hix] at d0 d1
        clear hc hk
        obtain ⟨cx, cy⟩ := c
        simp only at d0 d1
        have hixI2 : (ix : Int) < (L.length : Int) := by omega
        have hje : Hid (ix = L.length - 1 - j) := hix
        rw [hixI]
        clear hixI hix
        go_wp2_with (at_builtin; refine wpList_append_own_at _ rfl _ _ 57 rfl (w.heap.size + 2) 96 i0 (.agg #[.int .i64 0, .int .i64 0]) 2 16 Try.underlying57 hi hz0 hz1 hz2 rfl (by decide) _ _ _ rfl (hown.alloc _) ⟨wr.heap.size, 0, none⟩ 1 1 [.int .i64 cx, .int .i64 cy] rfl rfl ?d1 ?d2 ?d3 ?d4 ?d5 ?_)
        case d1 =>
          intro j u hj
          match j, hj with
          | 0, hj => simp at hj; subst hj; simp [Addr.add]
          | 1, hj => simp at hj; subst hj; simp [Addr.add]
        case d2 =>
          intro u hu
          simp at hu
          rcases hu with rfl | rfl <;> rfl
        case d3 => unfold maxLen; omega
        case d4 => omega
        case d5 => simp; omega
        intro v' w6 hown' hgrow _ hat
        obtain ⟨g', cap', rfl⟩ := owns_pos hown'
        have hg' : g' ≠ gl := by
          simp [Value.ownBlock] at hat
          omega
        have hOL6 := (hOLr.alloc (.cells #[.int .i64 cx, .int .i64 cy] 96)).kept hgrow (.inr (by simp [Value.ownBlock]; omega))
        have hB6 : Below w.heap.size wr w6 := ((Below.refl _ wr).alloc (by omega) _).grown hgrow (by simp; omega) (by intro k hk; simp [Value.ownBlock] at hk; omega)
        have hO6 : w6.ownsRow (w.heap.size + 2) 96 2 (.slice (some ⟨g', 0, none⟩) (j + 1) cap') (j + 1) (valsPlanCell (L.reverse.take (j + 1))) := by
          rw [HR.out, valsPlanCell_snoc]
          exact hown'
        have z6 := hB6.size
        have hB7 := hB.trans hB6
        clear hown hown' hgrow hat hOLr hB6 hB d0 d1 HR
        go_wp2
        go_roundw
        case rel => exact ⟨j + 1, g', cap', by omega, by have := hje.out; go_num, rfl, hg', hO6, hOL6, hB7, by omega⟩
        case measure => simp [intOf]
      · have hje : j = L.length := by omega
        subst hje
        have HFin : Hid (wr.ownsRow w.heap.size 96 2 (.slice (some ⟨g, 0, none⟩) L.length cap) L.length (valsPlanCell L.reverse)) := by
          have h := own_lo hown (show w.heap.size ≤ w.heap.size + 2 by omega)
          rwa [List.take_of_length_le (by simp)] at h
        clear hown hOLr
        go_wp2
        go_ret
        exact ⟨.slice (some ⟨g, 0, none⟩) L.length cap, rfl, HFin.out, hB⟩
theorem sLeg17 (a b : DCell) (w : World) (ha : InLeg a) (hb : InLeg b) :
    Calls Try.prog 60 #[vCe a, vCe b] w fun e w' => ∃ v, e = .returned v ∧ w'.ownsRow w.heap.size 96 2 v (legOf a b).length (valsPlanCell (legOf a b)) ∧ Below w.heap.size w w' := by
  by_cases h : Lesser a b
  · rw [show legOf a b = legUp a b by simp [legOf, ha, hb, h]]
    exact sUp a b w ha hb h
  · rw [show legOf a b = (legUp b a).reverse by simp [legOf, ha, hb, h], List.length_reverse]
    exact sBack a b w ha hb h

end Pcl
end Go.Proofs.Ytohgkiljdehefaa
