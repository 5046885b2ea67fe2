/- DERIVED. The program's iterator over a line's cells, forward and back: its contract. -/
import Derived.Test.YtcamggfmaphcbaaLg1
import Derived.RangeFuncNested
import Derived.RangeFuncBound
import Derived.RangeFuncCalls
import Derived.RangeFuncLeaves
import Derived.RangeFuncBox
import Derived.Shelf.Abstract
import Derived.Shelf.RegionOpen
import Derived.WalkKit
import Derived.OwnWalkIn
import Derived.TacticsInMore
import Derived.LoopNIn
import Derived.LoopIn
import Derived.Maps.AppendAt
namespace Go.Proofs.Ytcamggfmaphcbaa
namespace Leg
open Go.RowKit Go.Shelf
set_option linter.unusedSimpArgs false
set_option linter.unusedVariables false
attribute [local go_sem] Oper.semAt_some

/-- What the iterator asks of a round: its two boxes are kept. -/
def KpB (Bb Bl : Nat) (W W' : World) : Prop := W.heap.size ≤ W'.heap.size ∧ W'.heap[Bb]? = W.heap[Bb]? ∧ W'.heap[Bl]? = W.heap[Bl]?
theorem LineC.kept {b : Nat} {f t : DCell} {n : Int} {w w' : World} (h : LineC b f t n w) (hb : w'.heap[b]? = w.heap[b]?) : LineC b f t n w' := by
  obtain ⟨h0, h1, h2, h3, h4⟩ := h
  exact ⟨(World.cell?_of_block (w := w) hb).trans h0, (World.cell?_of_block (w := w) hb).trans h1, (World.cell?_of_block (w := w) hb).trans h2, (World.cell?_of_block (w := w) hb).trans h3, (World.cell?_of_block (w := w) hb).trans h4⟩
theorem grown_of_below {W W' : World} (h : Below W.heap.size W W') : W.grownBy W' none := ⟨h.os, h.tape, h.output, h.size, fun k hk _ => h.block k hk⟩

set_option maxRecDepth 100000 in
set_option maxHeartbeats 2000000 in
/-- The iterator, going forth: for every loop body that keeps the two boxes. -/
theorem cells1_forth (m : Nat) (hm : 1 ≤ m) (l Bb Bl : Nat) (f t : DCell) (N : Nat) (xs : List DCell) (hxs : Hid (xs = (List.range (N + 1)).map (fun (j : Nat) => cellOf (N : Int) f t (j : Int)))) (hf : InLeg f) (ht : InLeg t) (hN : N ≤ 15) (J Jx : List DCell → World → Prop) (W0 : World) (hJ : AbidesFrom W0.heap.size J)
    (hY : ∀ pre x W, J pre W → pre.length < N + 1 → YieldAt Fence.wide (m - 1) Try.prog l #[vCe x] W fun e W' =>
      (e = .returned (.bool true) ∧ J (pre ++ [x]) W' ∧ KpB Bb Bl W W') ∨ (e = .returned (.bool false) ∧ Jx (pre ++ [x]) W'))
    (hBb : W0.cell? ⟨Bb, 0, none⟩ = some (.int .i64 (1))) (hBl : LineC Bl f t (N : Int) W0) (hb1 : Bb < W0.heap.size) (hb2 : Bl < W0.heap.size) (h0 : J [] W0) :
    CallsIn Fence.wide m Try.prog 26 #[.func (.yield l) #[] #[], .pointer (some ⟨Bb, 0, none⟩), .pointer (some ⟨Bl, 0, none⟩)] W0 fun e W' => (∃ v, e = .returned v) ∧
      ((∃ ys, ys = xs ∧ J ys W') ∨ (∃ pre, pre <+: xs ∧ Jx pre W')) := by
  obtain ⟨x, y⟩ := f
  obtain ⟨x', y'⟩ := t
  have hNI : (N : Int) ≤ 15 := by omega
  have hc := hBl
  obtain ⟨c0, c1, c2, c3, c4⟩ := hc
  refine callsIn_of_wp Try.func26 rfl trivial ?_ rfl
  simp only [Try.ntmps26, List.size_toArray, List.length_cons, List.length_nil, Nat.reduceAdd, Nat.reduceSub, Array.replicate_succ, Array.replicate_zero, List.push_toArray, List.append_toArray, List.nil_append, List.cons_append]
  gi_wp2
  gi_loopw [4, 12] (fun v i wr => ∃ j : Nat, j ≤ N + 1 ∧ v = .int .i64 (j : Int) ∧ i = .int .i64 j ∧ Hid (J ((List.range j).map (fun (j : Nat) => cellOf (N : Int) (x, y) (x', y') (j : Int))) wr) ∧ wr.cell? ⟨Bb, 0, none⟩ = some (.int .i64 (1)) ∧ LineC Bl (x, y) (x', y') (N : Int) wr ∧ W0.heap.size ≤ wr.heap.size) (fun _ i _ => N + 1 - (intOf i).toNat)
  case atStart => exact ⟨0, by omega, by simp, rfl, h0, hBb, hBl, Nat.le_refl _⟩
  case round =>
    obtain ⟨j, hj, rfl, rfl, HJ, hcb, hcl, hnr⟩ := hrel
    by_cases hlt : j < N + 1
    · have hcl' := hcl
      obtain ⟨e0, e1, e2, e3, e4⟩ := hcl'
      have hltI : (j : Int) < (N : Int) + 1 := by omega
      have HCELL := fun W => callsIn_wide (n := m - 1) |>.2 (cell_any (x, y) (x', y') (N : Int) ((j : Int)) W hf ht ⟨by omega, by omega⟩ ⟨by omega, by omega⟩)
      obtain ⟨c, HCD⟩ : ∃ c, Hid (cellOf (N : Int) (x, y) (x', y') ((j : Int)) = c) := ⟨_, rfl⟩
      have HCD' : cellOf (N : Int) (x, y) (x', y') ((j : Int)) = c := HCD
      rw [HCD'] at HCELL
      clear HCD'
      obtain ⟨cx, cy⟩ := c
      simp only [lineCells, vCe] at HCELL
      gi_wp2_with fail
      refine ⟨trivial, (HCELL _).mono ?_⟩
      rintro e w1 ⟨rfl, hbc⟩
      have HJ1 := hJ _ wr w1 none HJ.out (grown_of_below hbc) (fun r h => by cases h)
      have hcb1 : w1.cell? ⟨Bb, 0, none⟩ = some (.int .i64 (1)) := (hbc.cell (p := ⟨Bb, 0, none⟩) (by show Bb < _; omega)).trans hcb
      have hcl1 := hcl.below hbc (by omega)
      have hs1 := hbc.size
      obtain ⟨fn, tmps, assign, body, hy, hR⟩ := hY _ (cx, cy) w1 HJ1 (by simp; omega)
      simp only [vCe] at hy
      clear HCELL hcb hcl e0 e1 e2 e3 e4 HJ HJ1
      gi_wp2_with fail
      refine hR.mono ?_
      rintro e W3 (⟨rfl, hJ3, hk3⟩ | ⟨rfl, hJx3⟩)
      · have hcb3 : W3.cell? ⟨Bb, 0, none⟩ = some (.int .i64 (1)) := (World.cell?_of_block (w := w1) (a := ⟨Bb, 0, none⟩) hk3.2.1).trans hcb1
        have hcl3 := hcl1.kept hk3.2.2
        have hs3 := hk3.1
        have HJ3 : Hid (J ((List.range (j + 1)).map (fun (j : Nat) => cellOf (N : Int) (x, y) (x', y') (j : Int))) W3) := by
          rw [List.range_succ, List.map_append, List.map_cons, List.map_nil, HCD.out]
          exact hJ3
        clear hJ3
        gi_wp2
        go_roundw
        case rel => exact ⟨j + 1, by omega, by go_num, by go_num, HJ3, hcb3, hcl3, by omega⟩
        case measure => simp [intOf]; omega
      · gi_wp2
        refine bodyPost_ret (results_none rfl _ _ _) rfl ?_
        refine ⟨⟨_, rfl⟩, .inr ⟨_, ?_, hJx3⟩⟩
        refine ⟨(List.range' (j + 1) (N - j)).map (fun (j : Nat) => cellOf (N : Int) (x, y) (x', y') (j : Int)), ?_⟩
        have e1 : List.range (N + 1) = List.range j ++ j :: List.range' (j + 1) (N - j) := by
          have h1 : N + 1 = j + (N - j + 1) := by omega
          rw [List.range_eq_range', List.range_eq_range', h1, ← List.range'_append_1, List.range'_succ]
          simp
        rw [hxs.out, e1, List.map_append, List.map_cons, HCD.out]
        simp
    · have hje : j = N + 1 := by omega
      have hltI : ¬ (j : Int) < (N : Int) + 1 := by omega
      subst hje
      gi_wp2
      go_end0
      have HE : J xs wr := by rw [hxs.out]; exact HJ.out
      first | exact ⟨⟨_, rfl⟩, .inl ⟨_, rfl, HE⟩⟩ | exact ⟨⟨_, rfl⟩, .inl HE⟩ | exact .inl HE

set_option maxRecDepth 100000 in
set_option maxHeartbeats 2000000 in
/-- The iterator, going back: for every loop body that keeps the two boxes. -/
theorem cells1_back (m : Nat) (hm : 1 ≤ m) (l Bb Bl : Nat) (f t : DCell) (N : Nat) (xs : List DCell) (hxs : Hid (xs = (List.range (N + 1)).map (fun (j : Nat) => cellOf (N : Int) f t ((N : Int) - (j : Int))))) (hf : InLeg f) (ht : InLeg t) (hN : N ≤ 15) (J Jx : List DCell → World → Prop) (W0 : World) (hJ : AbidesFrom W0.heap.size J)
    (hY : ∀ pre x W, J pre W → pre.length < N + 1 → YieldAt Fence.wide (m - 1) Try.prog l #[vCe x] W fun e W' =>
      (e = .returned (.bool true) ∧ J (pre ++ [x]) W' ∧ KpB Bb Bl W W') ∨ (e = .returned (.bool false) ∧ Jx (pre ++ [x]) W'))
    (hBb : W0.cell? ⟨Bb, 0, none⟩ = some (.int .i64 (-1))) (hBl : LineC Bl f t (N : Int) W0) (hb1 : Bb < W0.heap.size) (hb2 : Bl < W0.heap.size) (h0 : J [] W0) :
    CallsIn Fence.wide m Try.prog 26 #[.func (.yield l) #[] #[], .pointer (some ⟨Bb, 0, none⟩), .pointer (some ⟨Bl, 0, none⟩)] W0 fun e W' => (∃ v, e = .returned v) ∧
      ((∃ ys, ys = xs ∧ J ys W') ∨ (∃ pre, pre <+: xs ∧ Jx pre W')) := by
  obtain ⟨x, y⟩ := f
  obtain ⟨x', y'⟩ := t
  have hNI : (N : Int) ≤ 15 := by omega
  have hc := hBl
  obtain ⟨c0, c1, c2, c3, c4⟩ := hc
  refine callsIn_of_wp Try.func26 rfl trivial ?_ rfl
  simp only [Try.ntmps26, List.size_toArray, List.length_cons, List.length_nil, Nat.reduceAdd, Nat.reduceSub, Array.replicate_succ, Array.replicate_zero, List.push_toArray, List.append_toArray, List.nil_append, List.cons_append]
  gi_wp2
  gi_loopw [4, 12] (fun v i wr => ∃ j : Nat, j ≤ N + 1 ∧ v = .int .i64 ((N : Int) - (j : Int)) ∧ i = .int .i64 j ∧ Hid (J ((List.range j).map (fun (j : Nat) => cellOf (N : Int) (x, y) (x', y') ((N : Int) - (j : Int)))) wr) ∧ wr.cell? ⟨Bb, 0, none⟩ = some (.int .i64 (-1)) ∧ LineC Bl (x, y) (x', y') (N : Int) wr ∧ W0.heap.size ≤ wr.heap.size) (fun _ i _ => N + 1 - (intOf i).toNat)
  case atStart => exact ⟨0, by omega, by simp, rfl, h0, hBb, hBl, Nat.le_refl _⟩
  case round =>
    obtain ⟨j, hj, rfl, rfl, HJ, hcb, hcl, hnr⟩ := hrel
    by_cases hlt : j < N + 1
    · have hcl' := hcl
      obtain ⟨e0, e1, e2, e3, e4⟩ := hcl'
      have hltI : (j : Int) < (N : Int) + 1 := by omega
      have HCELL := fun W => callsIn_wide (n := m - 1) |>.2 (cell_any (x, y) (x', y') (N : Int) (((N : Int) - (j : Int))) W hf ht ⟨by omega, by omega⟩ ⟨by omega, by omega⟩)
      obtain ⟨c, HCD⟩ : ∃ c, Hid (cellOf (N : Int) (x, y) (x', y') (((N : Int) - (j : Int))) = c) := ⟨_, rfl⟩
      have HCD' : cellOf (N : Int) (x, y) (x', y') (((N : Int) - (j : Int))) = c := HCD
      rw [HCD'] at HCELL
      clear HCD'
      obtain ⟨cx, cy⟩ := c
      simp only [lineCells, vCe] at HCELL
      gi_wp2_with fail
      refine ⟨trivial, (HCELL _).mono ?_⟩
      rintro e w1 ⟨rfl, hbc⟩
      have HJ1 := hJ _ wr w1 none HJ.out (grown_of_below hbc) (fun r h => by cases h)
      have hcb1 : w1.cell? ⟨Bb, 0, none⟩ = some (.int .i64 (-1)) := (hbc.cell (p := ⟨Bb, 0, none⟩) (by show Bb < _; omega)).trans hcb
      have hcl1 := hcl.below hbc (by omega)
      have hs1 := hbc.size
      obtain ⟨fn, tmps, assign, body, hy, hR⟩ := hY _ (cx, cy) w1 HJ1 (by simp; omega)
      simp only [vCe] at hy
      clear HCELL hcb hcl e0 e1 e2 e3 e4 HJ HJ1
      gi_wp2_with fail
      refine hR.mono ?_
      rintro e W3 (⟨rfl, hJ3, hk3⟩ | ⟨rfl, hJx3⟩)
      · have hcb3 : W3.cell? ⟨Bb, 0, none⟩ = some (.int .i64 (-1)) := (World.cell?_of_block (w := w1) (a := ⟨Bb, 0, none⟩) hk3.2.1).trans hcb1
        have hcl3 := hcl1.kept hk3.2.2
        have hs3 := hk3.1
        have HJ3 : Hid (J ((List.range (j + 1)).map (fun (j : Nat) => cellOf (N : Int) (x, y) (x', y') ((N : Int) - (j : Int)))) W3) := by
          rw [List.range_succ, List.map_append, List.map_cons, List.map_nil, HCD.out]
          exact hJ3
        clear hJ3
        gi_wp2
        go_roundw
        case rel => exact ⟨j + 1, by omega, by go_num, by go_num, HJ3, hcb3, hcl3, by omega⟩
        case measure => simp [intOf]; omega
      · gi_wp2
        refine bodyPost_ret (results_none rfl _ _ _) rfl ?_
        refine ⟨⟨_, rfl⟩, .inr ⟨_, ?_, hJx3⟩⟩
        refine ⟨(List.range' (j + 1) (N - j)).map (fun (j : Nat) => cellOf (N : Int) (x, y) (x', y') ((N : Int) - (j : Int))), ?_⟩
        have e1 : List.range (N + 1) = List.range j ++ j :: List.range' (j + 1) (N - j) := by
          have h1 : N + 1 = j + (N - j + 1) := by omega
          rw [List.range_eq_range', List.range_eq_range', h1, ← List.range'_append_1, List.range'_succ]
          simp
        rw [hxs.out, e1, List.map_append, List.map_cons, HCD.out]
        simp
    · have hje : j = N + 1 := by omega
      have hltI : ¬ (j : Int) < (N : Int) + 1 := by omega
      subst hje
      gi_wp2
      go_end0
      have HE : J xs wr := by rw [hxs.out]; exact HJ.out
      first | exact ⟨⟨_, rfl⟩, .inl ⟨_, rfl, HE⟩⟩ | exact ⟨⟨_, rfl⟩, .inl HE⟩ | exact .inl HE

end Leg
end Go.Proofs.Ytcamggfmaphcbaa
