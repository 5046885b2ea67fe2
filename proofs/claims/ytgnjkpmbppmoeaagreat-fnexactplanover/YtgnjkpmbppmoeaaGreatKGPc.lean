/- DERIVED. Data of: By gr.py: a result that is a list of PlanCell: what it owns; the laws' own eq, mark, held over it. -/
import Derived.Test.YtgnjkpmbppmoeaaGreatKGMa
import Derived.Deep.RegionWith
import Derived.Test.YtgnjkpmbppmoeaaGreatKGLg
import Derived.Maps.AppendAt
import Derived.Deep.AppendLies
namespace Go.Proofs.YtgnjkpmbppmoeaaGreat
open Go.RowKit
set_option linter.unusedSimpArgs false
set_option linter.unusedVariables false

abbrev RPlanCell := Int × Int
def valsPlanCell (l : List RPlanCell) : List Value := l.flatMap fun x => [.int .i64 x.1, .int .i64 x.2]
theorem valsPlanCell_len (l : List RPlanCell) : (valsPlanCell l).length = l.length * 2 := by
  induction l with
  | nil => rfl
  | cons x l ih => simp only [valsPlanCell, List.flatMap_cons, List.length_append, List.length_cons, List.length_nil] at ih ⊢; omega
theorem valsPlanCell_cons (x : RPlanCell) (l : List RPlanCell) : valsPlanCell (x :: l) = (.int .i64 x.1) :: (.int .i64 x.2) :: valsPlanCell l := rfl
theorem valsPlanCell_app (a b : List RPlanCell) : valsPlanCell (a ++ b) = valsPlanCell a ++ valsPlanCell b := by simp [valsPlanCell]
theorem valsPlanCell_snoc (l : List RPlanCell) (x : RPlanCell) : valsPlanCell (l ++ [x]) = valsPlanCell l ++ [.int .i64 x.1, .int .i64 x.2] := by rw [valsPlanCell_app]; rfl
theorem valsPlanCell_at0 : ∀ (l : List RPlanCell) (i : Nat) (h : i < l.length), (valsPlanCell l)[i * 2]? = some (.int .i64 (l[i]'h).1)
  | x :: l, 0, _ => rfl
  | x :: l, i + 1, h => by
    rw [valsPlanCell_cons, show (i + 1) * 2 = i * 2 + 1 + 1 by omega]
    simpa using valsPlanCell_at0 l i (by simpa using h)
theorem valsPlanCell_at1 : ∀ (l : List RPlanCell) (i : Nat) (h : i < l.length), (valsPlanCell l)[i * 2 + 1]? = some (.int .i64 (l[i]'h).2)
  | x :: l, 0, _ => rfl
  | x :: l, i + 1, h => by
    rw [valsPlanCell_cons, show (i + 1) * 2 + 1 = i * 2 + 1 + 1 + 1 by omega]
    simpa using valsPlanCell_at1 l i (by simpa using h)

/-- Where a slice's elements are l, from cell 0 of its block on. -/
def AtPlanCell (w : World) (ao : Option Addr) (l : List RPlanCell) : Prop :=
  l = [] ∨ ∃ g, ao = some ⟨g, 0, none⟩ ∧ g < w.heap.size ∧ ∀ i (h : i < l.length), w.cell? ⟨g, i * 2, none⟩ = some (.int .i64 (l[i]'h).1) ∧ w.cell? ⟨g, i * 2 + 1, none⟩ = some (.int .i64 (l[i]'h).2)
theorem AtPlanCell.kept {w w' : World} {ao : Option Addr} {l : List RPlanCell} (h : AtPlanCell w ao l) (hb : ∀ g, ao = some ⟨g, 0, none⟩ → g < w.heap.size → w'.heap[g]? = w.heap[g]?) (hs : w.heap.size ≤ w'.heap.size) : AtPlanCell w' ao l := by
  rcases h with h0 | ⟨g, h1, h2, h3⟩
  · exact .inl h0
  · refine .inr ⟨g, h1, by omega, fun i hi => ?_⟩
    have hk := fun o => World.cell?_of_block (a := ⟨g, o, none⟩) (hb g h1 h2)
    have h4 := h3 i hi
    exact ⟨(hk _).trans h4.1, (hk _).trans h4.2⟩
theorem AtPlanCell.later {w w' : World} {ao : Option Addr} {l : List RPlanCell} (h : AtPlanCell w ao l) (hb : Below w.heap.size w w') : AtPlanCell w' ao l := h.kept (fun g _ hg => hb.block g hg) hb.size
theorem AtPlanCell.elem {w : World} {ao : Option Addr} {l : List RPlanCell} (h : AtPlanCell w ao l) {i : Nat} (hi : i < l.length) : ∃ g, ao = some ⟨g, 0, none⟩ ∧ g < w.heap.size ∧ w.cell? ⟨g, i * 2, none⟩ = some (.int .i64 (l[i]'hi).1) ∧ w.cell? ⟨g, i * 2 + 1, none⟩ = some (.int .i64 (l[i]'hi).2) := by
  rcases h with rfl | ⟨g, h1, h2, h3⟩
  · simp at hi
  · exact ⟨g, h1, h2, h3 i hi⟩
theorem atPlanCell_owns {w : World} {B : Nat} {ao : Option Addr} {cap : Nat} {l : List RPlanCell} (h : w.ownsRow B 84 2 (.slice ao l.length cap) l.length (valsPlanCell l)) : AtPlanCell w ao l := by
  by_cases he : l = []
  · exact .inl he
  · right
    have hpos : 0 < l.length := List.length_pos_iff.2 he
    rcases h.2 with ⟨_, h0⟩ | ⟨g, c, cur, hv, hg, hh, hn2, hc, hsz, ht⟩
    · omega
    · cases hv
      refine ⟨g, rfl, (Array.getElem?_eq_some_iff.1 hh).1, fun i hi => ?_⟩
      have e1 : ∀ j, j < 2 → cur[i * 2 + j]? = (valsPlanCell l)[i * 2 + j]? := fun j hj => by
        rw [← ht, List.getElem?_take, if_pos (idx_ne hi hj)]
        simp
      simp only [World.cell?, hh]
      exact ⟨(e1 0 (by decide)).trans (valsPlanCell_at0 l i hi), (e1 1 (by decide)).trans (valsPlanCell_at1 l i hi)⟩

end Go.Proofs.YtgnjkpmbppmoeaaGreat

/- DERIVED. impl.planLeg$1, what gives the next cell of a leg: its walk. -/
namespace Go.Proofs.YtgnjkpmbppmoeaaGreat
namespace Pcl
open Go.RowKit Leg
set_option linter.unusedSimpArgs false
set_option linter.unusedVariables false

/-- A box of one cell, that may be stored into. -/
def Box1 (B : Nat) (v : Value) (W : World) : Prop := W.cell? ⟨B, 0, none⟩ = some v ∧ W.frozen? ⟨B, 0, none⟩ = false

theorem grown_set {w : World} {B : Nat} (v : Value) : w.grownBy (w.setCell ⟨B, 0, none⟩ v) (some B) :=
  have b := (Below.refl 0 w).setCell (p := ⟨B, 0, none⟩) (Nat.zero_le _) v
  ⟨b.os, b.tape, b.output, b.size, fun k hk hne => Below.heap_setCell w ⟨B, 0, none⟩ v k (by intro e; exact hne (by rw [e]))⟩

set_option maxRecDepth 100000 in
set_option maxHeartbeats 2000000 in
theorem legStop (Bb Bm Bs Bl : Nat) (k : Int) (w : World) (hb : w.cell? ⟨Bb, 0, none⟩ = some (.int .i64 k)) (hm : w.cell? ⟨Bm, 0, none⟩ = some (.int .i64 k)) (h1 : Bb < w.heap.size) (h2 : Bm < w.heap.size) :
    Calls Tryz.prog 120 #[.pointer (some ⟨Bb, 0, none⟩), .pointer (some ⟨Bm, 0, none⟩), .pointer (some ⟨Bs, 0, none⟩), .pointer (some ⟨Bl, 0, none⟩)] w fun e w' => e = .returned (.tuple #[.agg #[.int .i64 0, .int .i64 0], .bool false]) ∧ Below w.heap.size w w' := by
  go_enter Tryz.func120, Tryz.ntmps120
  go_wp2
  refine bodyPost_ret (v := .tuple #[.agg #[.int .i64 0, .int .i64 0], .bool false]) (by simp [results, Tryz.results120, go_sem]) rfl ⟨rfl, ?_⟩
  repeat (first | exact Below.refl _ _ | refine Below.setCell ?_ (by simp; try omega) _ | refine Below.alloc ?_ (by simp; try omega) _)

set_option maxRecDepth 100000 in
set_option maxHeartbeats 4000000 in
theorem legStep (Bb Bm Bs Bl : Nat) (f t : DCell) (N : Nat) (k m s : Int) (w : World) (hb : Box1 Bb (.int .i64 k) w) (hm : w.cell? ⟨Bm, 0, none⟩ = some (.int .i64 m)) (hs : w.cell? ⟨Bs, 0, none⟩ = some (.int .i64 s)) (hl : LineC Bl f t (N : Int) w)
    (h1 : Bb < w.heap.size) (h2 : Bm < w.heap.size) (h3 : Bs < w.heap.size) (h4 : Bl < w.heap.size) (n1 : Bb ≠ Bl) (hf : InLeg f) (ht : InLeg t) (hN : N ≤ 15) (hk : 0 ≤ k + s ∧ k + s ≤ (N : Int)) (hkm : ¬ k = m) :
    Calls Tryz.prog 120 #[.pointer (some ⟨Bb, 0, none⟩), .pointer (some ⟨Bm, 0, none⟩), .pointer (some ⟨Bs, 0, none⟩), .pointer (some ⟨Bl, 0, none⟩)] w fun e w' => e = .returned (.tuple #[vCe (cellOf (N : Int) f t (k + s)), .bool true]) ∧ w.grownBy w' (some Bb) ∧ Box1 Bb (.int .i64 (k + s)) w' := by
  obtain ⟨hb1, hb2⟩ := hb
  have hkb : (k == m) = false := by simp [hkm]
  have HC := fun W => cell_any f t (N : Int) (k + s) W hf ht ⟨by omega, by omega⟩ hk
  generalize cellOf (N : Int) f t (k + s) = c at *
  obtain ⟨x, y⟩ := f
  obtain ⟨x', y'⟩ := t
  obtain ⟨cx, cy⟩ := c
  obtain ⟨l0, l1, l2, l3, l4⟩ := hl
  simp only [vCe, lineCells] at *
  obtain ⟨hk1, hk2⟩ := hk
  have hw : IntKind.i64.wrap (k + s) = k + s := by rw [IntKind.wrap_i64]; all_goals omega
  obtain ⟨w0, hw0⟩ : ∃ w0, w0 = (w.setCell ⟨Bb, 0, none⟩ (.int .i64 (k + s))).alloc (.cells #[.int .i64 0, .int .i64 0] 84) := ⟨_, rfl⟩
  have hg0 : w.grownBy w0 (some Bb) := by rw [hw0]; exact (grown_set _).trans (World.grownBy_alloc _ _ _)
  clear hf ht hkm
  go_enter Tryz.func120, Tryz.ntmps120
  go_wp2_with fail
  rw [← hw0]
  have e0 : w0.cell? ⟨w.heap.size, 0, none⟩ = some (.int .i64 0) := by rw [hw0]; go_simp
  have e1 : w0.cell? ⟨w.heap.size, 1, none⟩ = some (.int .i64 0) := by rw [hw0]; go_simp
  have q0 : w0.frozen? ⟨w.heap.size, 0, none⟩ = false := by rw [hw0]; go_simp
  have q1 : w0.frozen? ⟨w.heap.size, 1, none⟩ = false := by rw [hw0]; go_simp
  have r0 : w0.cell? ⟨Bb, 0, none⟩ = some (.int .i64 (k + s)) := by rw [hw0]; go_simp
  have r1 : w0.frozen? ⟨Bb, 0, none⟩ = false := by rw [hw0]; go_simp
  have hz0 : w0.heap.size = w.heap.size + 1 := by rw [hw0]; simp
  clear hw0
  refine (HC _).mono ?_
  rintro e w1 ⟨rfl, hc⟩
  have e0' := (hc.cell (p := ⟨w.heap.size, 0, none⟩) (by show w.heap.size < _; omega)).trans e0
  have e1' := (hc.cell (p := ⟨w.heap.size, 1, none⟩) (by show w.heap.size < _; omega)).trans e1
  have q0' := (hc.frozen (p := ⟨w.heap.size, 0, none⟩) (by show w.heap.size < _; omega)).trans q0
  have q1' := (hc.frozen (p := ⟨w.heap.size, 1, none⟩) (by show w.heap.size < _; omega)).trans q1
  have r0' := (hc.cell (p := ⟨Bb, 0, none⟩) (by show Bb < _; omega)).trans r0
  have r1' := (hc.frozen (p := ⟨Bb, 0, none⟩) (by show Bb < _; omega)).trans r1
  have hz1 := hc.size
  have hzw : w.heap.size < w1.heap.size := by omega
  have hgw : w.grownBy w1 (some Bb) := hg0.trans ⟨hc.os, hc.tape, hc.output, hc.size, fun k hk _ => hc.block k hk⟩
  have hne : Bb ≠ w.heap.size := by omega
  have HG : Hid (w.grownBy w1 (some Bb)) := hgw
  clear hc HC e0 e1 q0 q1 r0 r1 hg0 hgw hb1 hb2 l0 l1 l2 l3 l4 hm hs
  go_wp2
  refine bodyPost_ret (v := .tuple #[.agg #[.int .i64 cx, .int .i64 cy], .bool true]) (by simp [results, Tryz.results120, go_sem, e0', e1', q0', q1', hzw]) rfl ⟨rfl, ?_, ?_⟩
  · have hst : ∀ (W : World) (o : Nat) (v : Value), W.grownBy (W.setCell ⟨w.heap.size, o, none⟩ v) (some w.heap.size) := fun W o v => by
      have b := (Below.refl 0 W).setCell (p := ⟨w.heap.size, o, none⟩) (Nat.zero_le _) v
      exact ⟨b.os, b.tape, b.output, b.size, fun k hk hne => Below.heap_setCell W ⟨w.heap.size, o, none⟩ v k (by intro e; exact hne (by rw [e]))⟩
    exact (HG.out.andThen (hst _ 0 _) (fun j hj => .inl (by cases hj; exact Nat.le_refl _))).andThen (hst _ 1 _) (fun j hj => .inl (by cases hj; exact Nat.le_refl _))
  · refine ⟨by go_simp, by go_simp⟩

end Pcl
end Go.Proofs.YtgnjkpmbppmoeaaGreat

/- DERIVED. impl.planLeg: its walk. -/
namespace Go.Proofs.YtgnjkpmbppmoeaaGreat
namespace Pcl
open Go.RowKit Leg
set_option linter.unusedSimpArgs false
set_option linter.unusedVariables false

/-- What the closure of a leg holds: behind, last, by, the line; where they lie. -/
structure LegAt (W : World) (B Bb Bm Bs Bl : Nat) (f t : DCell) (N : Nat) (k m s : Int) : Prop where
  b : Box1 Bb (.int .i64 k) W
  m : W.cell? ⟨Bm, 0, none⟩ = some (.int .i64 m)
  s : W.cell? ⟨Bs, 0, none⟩ = some (.int .i64 s)
  l : LineC Bl f t (N : Int) W
  ge : (B ≤ Bb ∧ B ≤ Bm) ∧ B ≤ Bs ∧ B ≤ Bl
  lt : (Bb < W.heap.size ∧ Bm < W.heap.size) ∧ Bs < W.heap.size ∧ Bl < W.heap.size
  ne : Bb ≠ Bm ∧ Bb ≠ Bs ∧ Bb ≠ Bl

theorem LegAt.kept {W W' : World} {B Bb Bm Bs Bl : Nat} {f t : DCell} {N : Nat} {k m s : Int} (h : LegAt W B Bb Bm Bs Bl f t N k m s) (hb : W'.heap[Bb]? = W.heap[Bb]?) (hm : W'.heap[Bm]? = W.heap[Bm]?) (hs : W'.heap[Bs]? = W.heap[Bs]?) (hl : W'.heap[Bl]? = W.heap[Bl]?) (hz : W.heap.size ≤ W'.heap.size) : LegAt W' B Bb Bm Bs Bl f t N k m s where
  b := ⟨(World.cell?_of_block (w := W) hb).trans h.b.1, (World.frozen?_of_block (w := W) hb).trans h.b.2⟩
  m := (World.cell?_of_block (w := W) hm).trans h.m
  s := (World.cell?_of_block (w := W) hs).trans h.s
  l := by
    obtain ⟨h0, h1, h2, h3, h4⟩ := h.l
    exact ⟨(World.cell?_of_block (w := W) hl).trans h0, (World.cell?_of_block (w := W) hl).trans h1, (World.cell?_of_block (w := W) hl).trans h2, (World.cell?_of_block (w := W) hl).trans h3, (World.cell?_of_block (w := W) hl).trans h4⟩
  ge := h.ge
  lt := ⟨⟨Nat.lt_of_lt_of_le h.lt.1.1 hz, Nat.lt_of_lt_of_le h.lt.1.2 hz⟩, Nat.lt_of_lt_of_le h.lt.2.1 hz, Nat.lt_of_lt_of_le h.lt.2.2 hz⟩
  ne := h.ne
theorem LegAt.turned {W W' : World} {B Bb Bm Bs Bl : Nat} {f t : DCell} {N : Nat} {k k' m s : Int} (h : LegAt W B Bb Bm Bs Bl f t N k m s) (hg : W.grownBy W' (some Bb)) (hb : Box1 Bb (.int .i64 k') W') : LegAt W' B Bb Bm Bs Bl f t N k' m s where
  b := hb
  m := (World.cell?_of_block (w := W) (a := ⟨Bm, 0, none⟩) (hg.block Bm h.lt.1.2 (by simp; exact fun e => h.ne.1 e.symm))).trans h.m
  s := (World.cell?_of_block (w := W) (a := ⟨Bs, 0, none⟩) (hg.block Bs h.lt.2.1 (by simp; exact fun e => h.ne.2.1 e.symm))).trans h.s
  l := by
    obtain ⟨h0, h1, h2, h3, h4⟩ := h.l
    have hl := hg.block Bl h.lt.2.2 (by simp; exact fun e => h.ne.2.2 e.symm)
    exact ⟨(World.cell?_of_block (w := W) hl).trans h0, (World.cell?_of_block (w := W) hl).trans h1, (World.cell?_of_block (w := W) hl).trans h2, (World.cell?_of_block (w := W) hl).trans h3, (World.cell?_of_block (w := W) hl).trans h4⟩
  ge := h.ge
  lt := ⟨⟨Nat.lt_of_lt_of_le h.lt.1.1 hg.size, Nat.lt_of_lt_of_le h.lt.1.2 hg.size⟩, Nat.lt_of_lt_of_le h.lt.2.1 hg.size, Nat.lt_of_lt_of_le h.lt.2.2 hg.size⟩
  ne := h.ne

/-- What planLeg leaves. -/
def Opens (f t : DCell) (N : Nat) (k m s : Int) (w : World) (e : Ending) (w' : World) : Prop :=
  ∃ Bb Bm Bs Bl, e = .returned (.func (.func 120) #[] #[.pointer (some ⟨Bb, 0, none⟩), .pointer (some ⟨Bm, 0, none⟩), .pointer (some ⟨Bs, 0, none⟩), .pointer (some ⟨Bl, 0, none⟩)]) ∧ LegAt w' w.heap.size Bb Bm Bs Bl f t N k m s ∧ Below w.heap.size w w'

set_option maxRecDepth 100000 in
set_option maxHeartbeats 4000000 in
theorem open_up (a b f t : DCell) (N : Nat) (w : World)
    (HL : ∀ W, Calls Tryz.prog 119 #[vCe a, vCe b] W fun e w' => e = .returned (.tuple #[.agg (lineCells f t (N : Int)), .int .i64 1]) ∧ Below W.heap.size W w') :
    Calls Tryz.prog 111 #[vCe a, vCe b] w (Opens f t N 0 N 1 w) := by
  obtain ⟨x, y⟩ := a
  obtain ⟨x', y'⟩ := b
  obtain ⟨fx, fy⟩ := f
  obtain ⟨tx, ty⟩ := t
  simp only [vCe, lineCells] at HL ⊢
  unfold Opens
  go_enter Tryz.func111, Tryz.ntmps111
  go_wp2_with fail
  refine (HL _).mono ?_
  rintro e w1 ⟨rfl, hb1⟩
  clear HL
  have hb0 : Below w.heap.size w w1 := (((Below.refl w.heap.size w).alloc (Nat.le_refl _) _).alloc (by simp) _).trans (hb1.mono (by simp; omega))
  have hz := hb0.size
  clear hb1
  go_wp2_with fail
  go_region
  all_goals
    go_wp2
    go_ret
    refine ⟨_, _, _, _, rfl, ⟨⟨by go_simp, by go_simp⟩, by go_simp, by go_simp, ⟨by go_simp, by go_simp, by go_simp, by go_simp, by go_simp⟩, ⟨⟨by omega, by omega⟩, by omega, by omega⟩, ⟨⟨by simp; try omega, by simp; try omega⟩, by simp; try omega, by simp; try omega⟩, by omega, by omega, by omega⟩, ?_⟩
    repeat (first | exact hb0 | refine Below.drew ?_ | refine Below.setCell ?_ (by first | omega | (simp; omega)) _ | refine Below.alloc ?_ (by first | omega | (simp; omega)) _)

set_option maxRecDepth 100000 in
set_option maxHeartbeats 4000000 in
theorem open_back (a b f t : DCell) (N : Nat) (w : World)
    (HL : ∀ W, Calls Tryz.prog 119 #[vCe a, vCe b] W fun e w' => e = .returned (.tuple #[.agg (lineCells f t (N : Int)), .int .i64 (-1)]) ∧ Below W.heap.size W w') :
    Calls Tryz.prog 111 #[vCe a, vCe b] w (Opens f t N N 0 (-1) w) := by
  obtain ⟨x, y⟩ := a
  obtain ⟨x', y'⟩ := b
  obtain ⟨fx, fy⟩ := f
  obtain ⟨tx, ty⟩ := t
  simp only [vCe, lineCells] at HL ⊢
  unfold Opens
  go_enter Tryz.func111, Tryz.ntmps111
  go_wp2_with fail
  refine (HL _).mono ?_
  rintro e w1 ⟨rfl, hb1⟩
  clear HL
  have hb0 : Below w.heap.size w w1 := (((Below.refl w.heap.size w).alloc (Nat.le_refl _) _).alloc (by simp) _).trans (hb1.mono (by simp; omega))
  have hz := hb0.size
  clear hb1
  go_wp2_with fail
  go_region
  all_goals
    go_wp2
    go_ret
    refine ⟨_, _, _, _, rfl, ⟨⟨by go_simp, by go_simp⟩, by go_simp, by go_simp, ⟨by go_simp, by go_simp, by go_simp, by go_simp, by go_simp⟩, ⟨⟨by omega, by omega⟩, by omega, by omega⟩, ⟨⟨by simp; try omega, by simp; try omega⟩, by simp; try omega, by simp; try omega⟩, by omega, by omega, by omega⟩, ?_⟩
    repeat (first | exact hb0 | refine Below.drew ?_ | refine Below.setCell ?_ (by first | omega | (simp; omega)) _ | refine Below.alloc ?_ (by first | omega | (simp; omega)) _)

end Pcl
end Go.Proofs.YtgnjkpmbppmoeaaGreat

/- DERIVED. Cells along ends, on plain data; planLeg at every two cells. -/
namespace Go.Proofs.YtgnjkpmbppmoeaaGreat
namespace Pcl
open Go.RowKit Leg
set_option linter.unusedSimpArgs false
set_option linter.unusedVariables false

abbrev zC : DCell := (0, 0)
def tailL (a b : DCell) : List DCell := (legOf a b).drop 1
def runL (N : Nat) (f t : DCell) (k s : Int) : List DCell := (List.range N).map fun (n : Nat) => cellOf (N : Int) f t (k + s * ((n : Int) + 1))
theorem runL_len (N : Nat) (f t : DCell) (k s : Int) : (runL N f t k s).length = N := by simp [runL]
theorem runL_at (N : Nat) (f t : DCell) (k s : Int) (i : Nat) (h : i < (runL N f t k s).length) : (runL N f t k s)[i]'h = cellOf (N : Int) f t (k + s * ((i : Int) + 1)) := by simp [runL]

theorem apart_comm (a b : Int) : apartOf a b = apartOf b a := by unfold apartOf; split <;> split <;> omega
theorem steps_comm (a b : DCell) : stepsOf a b = stepsOf b a := by unfold stepsOf; rw [apart_comm a.1, apart_comm a.2]
theorem rev_range {α : Type} (N : Nat) (g : Int → α) : ((List.range (N + 1)).map fun (j : Nat) => g (j : Int)).reverse = ((List.range (N + 1)).map fun (j : Nat) => g ((N : Int) - (j : Int))) := by
  apply List.ext_getElem
  · simp
  · intro i h1 h2
    simp at h1 h2
    simp only [List.getElem_map, List.getElem_range, List.getElem_reverse, List.length_map, List.length_range]
    congr 1
    omega
theorem drop_range {α : Type} (N : Nat) (g : Nat → α) : ((List.range (N + 1)).map g).drop 1 = (List.range N).map fun n => g (n + 1) := by
  rw [List.range_succ_eq_map, List.map_cons, List.drop_one, List.tail_cons, List.map_map]
  rfl

theorem tail_up {a b : DCell} {N : Nat} (ha : InLeg a) (hb : InLeg b) (h : Lesser a b) (hN : stepsOf a b = (N : Int)) : tailL a b = runL N a b 0 1 := by
  unfold tailL legOf runL
  rw [if_pos ⟨ha, hb⟩, if_pos h, legUp, hN, Int.toNat_natCast, drop_range]
  refine List.map_congr_left fun n _ => ?_
  congr 1
  omega
theorem tail_back {a b : DCell} {N : Nat} (ha : InLeg a) (hb : InLeg b) (h : ¬ Lesser a b) (hN : stepsOf a b = (N : Int)) : tailL a b = runL N b a (N : Int) (-1) := by
  unfold tailL legOf runL
  rw [if_pos ⟨ha, hb⟩, if_neg h, legUp, steps_comm b a, hN, Int.toNat_natCast, rev_range N (fun k => cellOf (N : Int) b a k), drop_range]
  refine List.map_congr_left fun n _ => ?_
  congr 1
  omega

/-- Cells along ends, up to end k. -/
def alongTo (es : List DCell) : Nat → List DCell
  | 0 => [es.getD 0 zC]
  | k + 1 => alongTo es k ++ tailL (es.getD k zC) (es.getD (k + 1) zC)
theorem tail_len {a b : DCell} (ha : InLeg a) (hb : InLeg b) : (tailL a b).length ≤ 15 := by
  have hs := steps_le ha hb
  obtain ⟨N, hN⟩ : ∃ N : Nat, stepsOf a b = (N : Int) := ⟨(stepsOf a b).toNat, by omega⟩
  by_cases h : Lesser a b
  · rw [tail_up ha hb h hN, runL_len]; omega
  · rw [tail_back ha hb h hN, runL_len]; omega
theorem along_len {es : List DCell} (hIn : ∀ i, InLeg (es.getD i zC)) (k : Nat) : 1 ≤ (alongTo es k).length ∧ (alongTo es k).length ≤ 1 + 15 * k := by
  induction k with
  | zero => simp [alongTo]
  | succ k ih =>
    have := tail_len (hIn k) (hIn (k + 1))
    simp only [alongTo, List.length_append]
    omega

/-- planLeg at every two cells that have legs. -/
theorem open_any (a b : DCell) (ha : InLeg a) (hb : InLeg b) : ∃ (f t : DCell) (N : Nat) (k m s : Int), (InLeg f ∧ InLeg t) ∧ N ≤ 15 ∧ tailL a b = runL N f t k s ∧ (∀ i : Nat, i ≤ N → (0 ≤ k + s * (i : Int) ∧ k + s * (i : Int) ≤ (N : Int)) ∧ (k + s * (i : Int) = m ↔ i = N)) ∧ (-1 ≤ s ∧ s ≤ 1) ∧
    ∀ w, Calls Tryz.prog 111 #[vCe a, vCe b] w (Opens f t N k m s w) := by
  have hs := steps_le ha hb
  obtain ⟨N, hN⟩ : ∃ N : Nat, stepsOf a b = (N : Int) := ⟨(stepsOf a b).toNat, by omega⟩
  have hL := fun W => lineOf a b W ha hb
  rw [hN] at hL
  by_cases h : Lesser a b
  · simp only [h, if_true] at hL
    exact ⟨a, b, N, 0, N, 1, ⟨ha, hb⟩, by omega, tail_up ha hb h hN, fun i hi => ⟨⟨by omega, by omega⟩, by omega⟩, by omega, fun w => open_up a b a b N w hL⟩
  · simp only [h, if_false] at hL
    exact ⟨b, a, N, N, 0, -1, ⟨hb, ha⟩, by omega, tail_back ha hb h hN, fun i hi => ⟨⟨by omega, by omega⟩, by omega⟩, by omega, fun w => open_back a b b a N w hL⟩

end Pcl
end Go.Proofs.YtgnjkpmbppmoeaaGreat
