/- DERIVED. spec.SkyLeg at every two cells; the law's helpers over lists of cells: toSkyCell, eqSkyCellS, markSkyCellS, heldSkyCellS: their walks. -/
import Derived.Test.YtcamggfmaphcbaaLs2
import Derived.Deep.RegionWith
namespace Go.Proofs.Ytcamggfmaphcbaa
namespace Leg
open Go.RowKit
set_option linter.unusedSimpArgs false
set_option linter.unusedVariables false

set_option maxHeartbeats 1000000 in
theorem sLeg (a b : DCell) (w : World) :
    Calls Try.prog 8 #[vCe a, vCe b] w fun e w' => ∃ v, e = .returned v ∧ w'.ownsRow w.heap.size 24 2 v (legOf a b).length (cellVals (legOf a b)) ∧ Below w.heap.size w w' := by
  by_cases ha : InLeg a
  · by_cases hb : InLeg b
    · by_cases h : Lesser a b
      · rw [leg_yes ha hb h]
        exact sUp a b w ha hb h
      · rw [leg_back ha hb h, List.length_reverse]
        exact sBack a b w ha hb h
    · have e : legOf a b = [] := by simp [legOf, hb]
      have HA := fun W => sInside a W
      have HB := fun W => sInside b W
      rw [decide_eq_true ha] at HA
      rw [decide_eq_false hb] at HB
      rw [e]
      clear e ha hb
      obtain ⟨x, y⟩ := a
      obtain ⟨x', y'⟩ := b
      simp only [vCe] at *
      have hO := empty_cells ((w.alloc (.cells #[.int .i64 x, .int .i64 y] 24)).alloc (.cells #[.int .i64 x', .int .i64 y'] 24)) 24 w.heap.size (by simp; omega)
      simp only [World.size_alloc] at hO
      go_enter Try.func8, Try.ntmps8
      go_wp2_with fail
      refine (HA _).mono ?_
      rintro e w1 ⟨rfl, hb1⟩
      clear HA
      obtain ⟨bc1, bf1⟩ := bcell hb1
      have hO1 := hO.kept (grown_of_below hb1) (.inr (by simp [Value.ownBlock]))
      have z1 := hb1.size
      simp at z1 bc1 bf1
      have y10 : w.heap.size < w1.heap.size := by omega
      have y11 : w.heap.size + 1 < w1.heap.size := by omega
      clear hO
      go_wp2_with fail
      refine (HB _).mono ?_
      rintro e w2 ⟨rfl, hb2⟩
      have hO2 := hO1.kept (grown_of_below hb2) (.inr (by simp [Value.ownBlock]))
      clear hO1
      go_wp2
      go_ret
      exact ⟨_, rfl, hO2, (((((Below.refl w.heap.size w).alloc (Nat.le_refl _) _).alloc (by simp) _).alloc (by simp; omega) _).trans (hb1.mono (by simp; omega))).trans (hb2.mono (by omega))⟩
  · have e : legOf a b = [] := by simp [legOf, ha]
    have HA := fun W => sInside a W
    rw [decide_eq_false ha] at HA
    rw [e]
    clear e ha
    obtain ⟨x, y⟩ := a
    obtain ⟨x', y'⟩ := b
    simp only [vCe] at *
    have hO := empty_cells ((w.alloc (.cells #[.int .i64 x, .int .i64 y] 24)).alloc (.cells #[.int .i64 x', .int .i64 y'] 24)) 24 w.heap.size (by simp; omega)
    simp only [World.size_alloc] at hO
    go_enter Try.func8, Try.ntmps8
    go_wp2_with fail
    refine (HA _).mono ?_
    rintro e w1 ⟨rfl, hb1⟩
    clear HA
    have hO1 := hO.kept (grown_of_below hb1) (.inr (by simp [Value.ownBlock]))
    clear hO
    go_wp2
    go_ret
    exact ⟨_, rfl, hO1, ((((Below.refl w.heap.size w).alloc (Nat.le_refl _) _).alloc (by simp) _).alloc (by simp; omega) _).trans (hb1.mono (by simp; omega))⟩

theorem toCell (c : DCell) (w : World) :
    Calls Try.prog 11 #[vCe c] w fun e w' => e = .returned (vCe c) ∧ Below w.heap.size w w' := by
  obtain ⟨x, y⟩ := c
  simp only [vCe]
  go_enter Try.func11, Try.ntmps11
  go_wp2
  exact bodyPost_ret (v := .agg #[.int .i64 x, .int .i64 y]) (by simp [results, Try.results11, go_sem]) rfl ⟨rfl, by repeat (first | exact Below.refl _ _ | refine Below.alloc ?_ (by simp; try omega) _)⟩

/-- A slice holds these cells. -/
def CellsAt (w : World) (ao : Option Addr) (l : List DCell) : Prop :=
  l = [] ∨ ∃ g, ao = some ⟨g, 0, none⟩ ∧ g < w.heap.size ∧ ∀ i (h : i < l.length), w.cell? ⟨g, i * 2, none⟩ = some (.int .i64 (l[i]'h).1) ∧ w.cell? ⟨g, i * 2 + 1, none⟩ = some (.int .i64 (l[i]'h).2)

theorem CellsAt.kept {w w' : World} {ao : Option Addr} {l : List DCell} (h : CellsAt w ao l) (hb : ∀ g, ao = some ⟨g, 0, none⟩ → g < w.heap.size → w'.heap[g]? = w.heap[g]?) (hs : w.heap.size ≤ w'.heap.size) : CellsAt w' ao l := by
  rcases h with h | ⟨g, h1, h2, h3⟩
  · exact .inl h
  · exact .inr ⟨g, h1, Nat.lt_of_lt_of_le h2 hs, fun i hi => ⟨(World.cell?_of_block (w := w) (hb g h1 h2)).trans (h3 i hi).1, (World.cell?_of_block (w := w) (hb g h1 h2)).trans (h3 i hi).2⟩⟩
theorem CellsAt.later {w w' : World} {ao : Option Addr} {l : List DCell} (h : CellsAt w ao l) (hb : Below w.heap.size w w') : CellsAt w' ao l := h.kept (fun g _ hg => hb.block g hg) hb.size

theorem CellsAt.at {w : World} {ao : Option Addr} {l : List DCell} {k : Nat} (h : CellsAt w ao l) (hk : k < l.length) : ∃ g, ao = some ⟨g, 0, none⟩ ∧ g < w.heap.size ∧ w.cell? ⟨g, k * 2, none⟩ = some (.int .i64 (l[k]'hk).1) ∧ w.cell? ⟨g, k * 2 + 1, none⟩ = some (.int .i64 (l[k]'hk).2) := by
  rcases h with h | ⟨g, h1, h2, h3⟩
  · rw [h] at hk; simp at hk
  · exact ⟨g, h1, h2, h3 k hk⟩

/-- What a slice that owns its cells is. -/
theorem cells_of_owned {w : World} {base : Nat} {v : Value} {l : List DCell} {e : TypeId} (h : w.ownsRow base e 2 v l.length (cellVals l)) :
    ∃ ao cap, v = .slice ao l.length cap ∧ CellsAt w ao l ∧ l.length ≤ maxLen ∧ (∀ g, ao = some ⟨g, 0, none⟩ → base ≤ g ∧ g < w.heap.size) ∧ (ao = none → l = []) := by
  rcases h.2 with ⟨rfl, h0⟩ | ⟨g, cap, cur, rfl, h1, h2, h3, h4, _⟩
  · exact ⟨none, 0, by rw [h0], .inl (List.eq_nil_of_length_eq_zero h0), by rw [h0]; exact Nat.zero_le _, fun g hg => (by cases hg), fun _ => List.eq_nil_of_length_eq_zero h0⟩
  · have hlt := (Array.getElem?_eq_some_iff.1 h2).1
    exact ⟨some ⟨g, 0, none⟩, cap, rfl, .inr ⟨g, rfl, hlt, fun i hi => owned_cell h i hi⟩, Nat.le_trans h3 h4, fun g' hg => (by cases hg; exact ⟨h1, hlt⟩), fun hg => (by cases hg)⟩

set_option maxHeartbeats 400000 in
theorem eqCell (c : DCell) (w : World) :
    Calls Try.prog 23 #[.agg #[.int .i64 c.1, .int .i64 c.2], .agg #[.int .i64 c.1, .int .i64 c.2]] w fun e w' => e = .returned (.bool true) ∧ Below w.heap.size w w' := by
  go_enter Try.func23, Try.ntmps23
  go_wp2
  go_ret
  exact ⟨rfl, by repeat (first | exact Below.refl _ _ | refine Below.alloc ?_ (by simp; try omega) _)⟩

set_option maxHeartbeats 1000000 in
theorem eqCells (ao bo : Option Addr) (ca cb : Nat) (l : List DCell) (w : World) (hl : l.length ≤ maxLen) (ha : CellsAt w ao l) (hb : CellsAt w bo l) :
    Calls Try.prog 12 #[.slice ao l.length ca, .slice bo l.length cb] w fun e w' => e = .returned (.bool true) ∧ Below w.heap.size w w' := by
  unfold maxLen at hl
  go_enter Try.func12, Try.ntmps12
  go_wp2
  go_loopw [5] (fun i wr => ∃ k : Nat, k ≤ l.length ∧ i = .int .i64 k ∧ Below w.heap.size w wr) (fun i _ => l.length - (intOf i).toNat)
  case atStart => exact ⟨0, Nat.zero_le _, rfl, Below.refl _ _⟩
  case round =>
    obtain ⟨k, hk, rfl, hbel⟩ := hrel
    by_cases hlt : k < l.length
    · obtain ⟨g, rfl, hok, c0, c1⟩ := ha.at hlt
      obtain ⟨g', rfl, hok', c0', c1'⟩ := hb.at hlt
      have d0 := (hbel.cell (p := ⟨g, k * 2, none⟩) hok).trans c0
      have d1 := (hbel.cell (p := ⟨g, k * 2 + 1, none⟩) hok).trans c1
      have d0' := (hbel.cell (p := ⟨g', k * 2, none⟩) hok').trans c0'
      have d1' := (hbel.cell (p := ⟨g', k * 2 + 1, none⟩) hok').trans c1'
      generalize l[k] = x at *
      have hsz := hbel.size
      clear c0 c1 c0' c1' ha hb
      go_wp2
      go_region_with (go_at_call 23; refine (eqCell _ _).mono ?_; rintro e w1 ⟨rfl, hb1⟩)
      all_goals
        go_wp2
        go_roundw
        case rel => exact ⟨k + 1, by omega, by go_num, hbel.trans (Below.trans (below_drewN (Below.refl _ _) 1) (hb1.mono hsz))⟩
        case measure => simp [intOf]; omega
    · go_wp2
      go_ret
      exact ⟨rfl, hbel⟩

/-- The marks. -/
def marksC (k n : Nat) : List DCell := (List.range n).map fun i => (((k + 2 * i : Nat) : Int), ((k + 2 * i + 1 : Nat) : Int))
theorem marksC_len (k n : Nat) : (marksC k n).length = n := by simp [marksC]
theorem marksC_succ (k n : Nat) : marksC k (n + 1) = marksC k n ++ [(((k + 2 * n : Nat) : Int), ((k + 2 * n + 1 : Nat) : Int))] := by simp [marksC, List.range_succ]
theorem cellVals_app (a b : List DCell) : cellVals (a ++ b) = cellVals a ++ cellVals b := by simp [cellVals]
theorem cellVals_cons (c : DCell) (l : List DCell) : cellVals (c :: l) = .int .i64 c.1 :: .int .i64 c.2 :: cellVals l := rfl

theorem mark_set (k j : Nat) (l : List DCell) (hj : j < l.length) : ((cellVals (marksC k j ++ l.drop j)).set (j * 2) (.int .i64 ((k + 2 * j : Nat) : Int))).set (j * 2 + 1) (.int .i64 ((k + 2 * j + 1 : Nat) : Int)) = cellVals (marksC k (j + 1) ++ l.drop (j + 1)) := by
  have e1 : l.drop j = l[j] :: l.drop (j + 1) := List.drop_eq_getElem_cons hj
  have hl : (cellVals (marksC k j)).length = j * 2 := by rw [cellVals_len, marksC_len]
  rw [e1, cellVals_app, marksC_succ, cellVals_app, cellVals_app, List.set_append_right _ _ (by omega), hl, Nat.sub_self, cellVals_cons, List.set_cons_zero, List.set_append_right _ _ (by omega), hl, show j * 2 + 1 - j * 2 = 1 by omega, List.set_cons_succ, List.set_cons_zero, cellVals_cons]
  simp [cellVals]

set_option maxHeartbeats 1000000 in
theorem markCells_none (ao : Option Addr) (ca : Nat) (k : Int) (w : World) :
    Calls Try.prog 13 #[.slice ao 0 ca, .int .i64 k] w fun e w' => e = .returned (.int .i64 k) ∧ w = w' := by
  go_enter Try.func13, Try.ntmps13
  go_wp2
  go_loop [1, 5] (fun a i => a = .int .i64 k ∧ i = .int .i64 0) (fun _ _ => 0)
  case atStart => exact ⟨rfl, rfl⟩
  case round =>
    obtain ⟨rfl, rfl⟩ := hrel
    go_wp2
    go_ret
    exact ⟨rfl, rfl⟩

set_option maxHeartbeats 1000000 in
theorem markCells (g cap B k : Nat) (l : List DCell) (w : World) (hn : l.length ≤ 1000000000000) (hk : k ≤ 1000) (hB : B ≤ w.heap.size)
    (hown : w.ownsRow B 24 2 (.slice (some ⟨g, 0, none⟩) l.length cap) l.length (cellVals l)) :
    Calls Try.prog 13 #[.slice (some ⟨g, 0, none⟩) l.length cap, .int .i64 k] w fun e w' => e = .returned (.int .i64 ((k + 2 * l.length : Nat) : Int)) ∧ Below B w w' ∧
      w'.ownsRow B 24 2 (.slice (some ⟨g, 0, none⟩) l.length cap) l.length (cellVals (marksC k l.length)) := by
  go_enter Try.func13, Try.ntmps13
  go_wp2
  go_loopw [1, 5] (fun a i wr => ∃ j : Nat, j ≤ l.length ∧ i = .int .i64 j ∧ a = .int .i64 ((k + 2 * j : Nat) : Int) ∧ Below B w wr ∧
     wr.ownsRow B 24 2 (.slice (some ⟨g, 0, none⟩) l.length cap) l.length (cellVals (marksC k j ++ l.drop j))) (fun _ i _ => l.length - (intOf i).toNat)
  case atStart => exact ⟨0, Nat.zero_le _, rfl, rfl, Below.refl _ _, by simpa [marksC] using hown⟩
  case round =>
    obtain ⟨j, hj, rfl, rfl, hbel, hO⟩ := hrel
    by_cases hlt : j < l.length
    · have hsz := hbel.size
      have hgB := (owned_block hO).1
      have hll : j < (marksC k j ++ l.drop j).length := by simp [marksC_len]; omega
      obtain ⟨d0, d1⟩ := owned_cell hO j hll
      have f0 := hO.frozenAt (j * 2)
      have f1 := hO.frozenAt (j * 2 + 1)
      have hst := ((hO.stored (j * 2) (.int .i64 ((k + 2 * j : Nat) : Int))).1.stored (j * 2 + 1) (.int .i64 ((k + 2 * j + 1 : Nat) : Int))).1
      rw [mark_set k j l hlt] at hst
      have hB2 : Below B w ((wr.setCell ⟨g, j * 2, none⟩ (.int .i64 ((k + 2 * j : Nat) : Int))).setCell ⟨g, j * 2 + 1, none⟩ (.int .i64 ((k + 2 * j + 1 : Nat) : Int))) := (hbel.setCell (p := ⟨g, j * 2, none⟩) hgB _).setCell (p := ⟨g, j * 2 + 1, none⟩) hgB _
      have e1 : ((k + 2 * j : Nat) : Int) = (k : Int) + 2 * (j : Int) := by omega
      have e2 : ((k + 2 * j + 1 : Nat) : Int) = (k : Int) + 2 * (j : Int) + 1 := by omega
      rw [e1, e2] at hst hB2
      have HST : Hid _ := hst
      have HB2 : Hid _ := hB2
      generalize (marksC k j ++ l.drop j)[j]'hll = c at d0 d1
      clear hO hbel hown hst hB2 hll e1 e2
      go_wp2
      go_roundw
      case rel => exact ⟨j + 1, by omega, by go_num, by go_num, HB2.out, HST.out⟩
      case measure => simp [intOf]; omega
    · have hj2 : j = l.length := by omega
      subst hj2
      have hO2 : wr.ownsRow B 24 2 (.slice (some ⟨g, 0, none⟩) l.length cap) l.length (cellVals (marksC k l.length)) := by simpa using hO
      have HO2 : Hid _ := hO2
      clear hO hO2
      go_wp2
      go_ret
      exact ⟨rfl, hbel, HO2.out⟩

set_option maxHeartbeats 1000000 in
theorem heldCells_none (ao : Option Addr) (ca : Nat) (k : Int) (w : World) :
    Calls Try.prog 14 #[.slice ao 0 ca, .int .i64 k] w fun e w' => e = .returned (.int .i64 k) ∧ w = w' := by
  go_enter Try.func14, Try.ntmps14
  go_wp2
  go_loop [1, 5] (fun a i => a = .int .i64 k ∧ i = .int .i64 0) (fun _ _ => 0)
  case atStart => exact ⟨rfl, rfl⟩
  case round =>
    obtain ⟨rfl, rfl⟩ := hrel
    go_wp2
    go_ret
    exact ⟨rfl, rfl⟩

set_option maxHeartbeats 1000000 in
theorem heldCells (g cap k n : Nat) (w : World) (hn : n ≤ 1000000000000) (hk : k ≤ 1000)
    (hc : ∀ i, i < n → w.cell? ⟨g, i * 2, none⟩ = some (.int .i64 ((k + 2 * i : Nat) : Int)) ∧ w.cell? ⟨g, i * 2 + 1, none⟩ = some (.int .i64 ((k + 2 * i + 1 : Nat) : Int))) :
    Calls Try.prog 14 #[.slice (some ⟨g, 0, none⟩) n cap, .int .i64 k] w fun e w' => e = .returned (.int .i64 ((k + 2 * n : Nat) : Int)) ∧ w = w' := by
  go_enter Try.func14, Try.ntmps14
  go_wp2
  go_loop [1, 5] (fun a i => ∃ j : Nat, j ≤ n ∧ i = .int .i64 j ∧ a = .int .i64 ((k + 2 * j : Nat) : Int)) (fun _ i => n - (intOf i).toNat)
  case atStart => exact ⟨0, Nat.zero_le _, rfl, rfl⟩
  case round =>
    obtain ⟨j, hj, rfl, rfl⟩ := hrel
    by_cases hlt : j < n
    · obtain ⟨d0, d1⟩ := hc j hlt
      clear hc
      go_wp2
      go_round
      case rel => exact ⟨j + 1, by omega, by go_num, by go_num⟩
      case measure => simp [intOf]; omega
    · have hj2 : j = n := by omega
      subst hj2
      clear hc
      go_wp2
      go_ret
      exact ⟨rfl, rfl⟩

end Leg
end Go.Proofs.Ytcamggfmaphcbaa
