/- DERIVED. By gr.py: a result that is a list of PlanStep: what it owns; the laws' own eq, mark, held over it. -/
import Derived.Test.YtgnjkpmbppmoeaaGreatKGMa
import Derived.Deep.RegionWith
namespace Go.Proofs.YtgnjkpmbppmoeaaGreat
open Go.RowKit
set_option linter.unusedSimpArgs false
set_option linter.unusedVariables false

abbrev RPlanStep := Int × Int × Int × Int × Int × Int
def valsPlanStep (l : List RPlanStep) : List Value := l.flatMap fun x => [.int .i64 x.1, .int .i64 x.2.1, .int .i64 x.2.2.1, .int .i64 x.2.2.2.1, .int .i64 x.2.2.2.2.1, .int .i64 x.2.2.2.2.2]
theorem valsPlanStep_len (l : List RPlanStep) : (valsPlanStep l).length = l.length * 6 := by
  induction l with
  | nil => rfl
  | cons x l ih => simp only [valsPlanStep, List.flatMap_cons, List.length_append, List.length_cons, List.length_nil] at ih ⊢; omega
theorem valsPlanStep_cons (x : RPlanStep) (l : List RPlanStep) : valsPlanStep (x :: l) = (.int .i64 x.1) :: (.int .i64 x.2.1) :: (.int .i64 x.2.2.1) :: (.int .i64 x.2.2.2.1) :: (.int .i64 x.2.2.2.2.1) :: (.int .i64 x.2.2.2.2.2) :: valsPlanStep l := rfl
theorem valsPlanStep_app (a b : List RPlanStep) : valsPlanStep (a ++ b) = valsPlanStep a ++ valsPlanStep b := by simp [valsPlanStep]
theorem valsPlanStep_snoc (l : List RPlanStep) (x : RPlanStep) : valsPlanStep (l ++ [x]) = valsPlanStep l ++ [.int .i64 x.1, .int .i64 x.2.1, .int .i64 x.2.2.1, .int .i64 x.2.2.2.1, .int .i64 x.2.2.2.2.1, .int .i64 x.2.2.2.2.2] := by rw [valsPlanStep_app]; rfl
theorem valsPlanStep_at0 : ∀ (l : List RPlanStep) (i : Nat) (h : i < l.length), (valsPlanStep l)[i * 6]? = some (.int .i64 (l[i]'h).1)
  | x :: l, 0, _ => rfl
  | x :: l, i + 1, h => by
    rw [valsPlanStep_cons, show (i + 1) * 6 = i * 6 + 1 + 1 + 1 + 1 + 1 + 1 by omega]
    simpa using valsPlanStep_at0 l i (by simpa using h)
theorem valsPlanStep_at1 : ∀ (l : List RPlanStep) (i : Nat) (h : i < l.length), (valsPlanStep l)[i * 6 + 1]? = some (.int .i64 (l[i]'h).2.1)
  | x :: l, 0, _ => rfl
  | x :: l, i + 1, h => by
    rw [valsPlanStep_cons, show (i + 1) * 6 + 1 = i * 6 + 1 + 1 + 1 + 1 + 1 + 1 + 1 by omega]
    simpa using valsPlanStep_at1 l i (by simpa using h)
theorem valsPlanStep_at2 : ∀ (l : List RPlanStep) (i : Nat) (h : i < l.length), (valsPlanStep l)[i * 6 + 2]? = some (.int .i64 (l[i]'h).2.2.1)
  | x :: l, 0, _ => rfl
  | x :: l, i + 1, h => by
    rw [valsPlanStep_cons, show (i + 1) * 6 + 2 = i * 6 + 2 + 1 + 1 + 1 + 1 + 1 + 1 by omega]
    simpa using valsPlanStep_at2 l i (by simpa using h)
theorem valsPlanStep_at3 : ∀ (l : List RPlanStep) (i : Nat) (h : i < l.length), (valsPlanStep l)[i * 6 + 3]? = some (.int .i64 (l[i]'h).2.2.2.1)
  | x :: l, 0, _ => rfl
  | x :: l, i + 1, h => by
    rw [valsPlanStep_cons, show (i + 1) * 6 + 3 = i * 6 + 3 + 1 + 1 + 1 + 1 + 1 + 1 by omega]
    simpa using valsPlanStep_at3 l i (by simpa using h)
theorem valsPlanStep_at4 : ∀ (l : List RPlanStep) (i : Nat) (h : i < l.length), (valsPlanStep l)[i * 6 + 4]? = some (.int .i64 (l[i]'h).2.2.2.2.1)
  | x :: l, 0, _ => rfl
  | x :: l, i + 1, h => by
    rw [valsPlanStep_cons, show (i + 1) * 6 + 4 = i * 6 + 4 + 1 + 1 + 1 + 1 + 1 + 1 by omega]
    simpa using valsPlanStep_at4 l i (by simpa using h)
theorem valsPlanStep_at5 : ∀ (l : List RPlanStep) (i : Nat) (h : i < l.length), (valsPlanStep l)[i * 6 + 5]? = some (.int .i64 (l[i]'h).2.2.2.2.2)
  | x :: l, 0, _ => rfl
  | x :: l, i + 1, h => by
    rw [valsPlanStep_cons, show (i + 1) * 6 + 5 = i * 6 + 5 + 1 + 1 + 1 + 1 + 1 + 1 by omega]
    simpa using valsPlanStep_at5 l i (by simpa using h)

/-- Where a slice's elements are l, from cell 0 of its block on. -/
def AtPlanStep (w : World) (ao : Option Addr) (l : List RPlanStep) : Prop :=
  l = [] ∨ ∃ g, ao = some ⟨g, 0, none⟩ ∧ g < w.heap.size ∧ ∀ i (h : i < l.length), w.cell? ⟨g, i * 6, none⟩ = some (.int .i64 (l[i]'h).1) ∧ w.cell? ⟨g, i * 6 + 1, none⟩ = some (.int .i64 (l[i]'h).2.1) ∧ w.cell? ⟨g, i * 6 + 2, none⟩ = some (.int .i64 (l[i]'h).2.2.1) ∧ w.cell? ⟨g, i * 6 + 3, none⟩ = some (.int .i64 (l[i]'h).2.2.2.1) ∧ w.cell? ⟨g, i * 6 + 4, none⟩ = some (.int .i64 (l[i]'h).2.2.2.2.1) ∧ w.cell? ⟨g, i * 6 + 5, none⟩ = some (.int .i64 (l[i]'h).2.2.2.2.2)
theorem AtPlanStep.kept {w w' : World} {ao : Option Addr} {l : List RPlanStep} (h : AtPlanStep w ao l) (hb : ∀ g, ao = some ⟨g, 0, none⟩ → g < w.heap.size → w'.heap[g]? = w.heap[g]?) (hs : w.heap.size ≤ w'.heap.size) : AtPlanStep w' ao l := by
  rcases h with h0 | ⟨g, h1, h2, h3⟩
  · exact .inl h0
  · refine .inr ⟨g, h1, by omega, fun i hi => ?_⟩
    have hk := fun o => World.cell?_of_block (a := ⟨g, o, none⟩) (hb g h1 h2)
    have h4 := h3 i hi
    exact ⟨(hk _).trans h4.1, (hk _).trans h4.2.1, (hk _).trans h4.2.2.1, (hk _).trans h4.2.2.2.1, (hk _).trans h4.2.2.2.2.1, (hk _).trans h4.2.2.2.2.2⟩
theorem AtPlanStep.later {w w' : World} {ao : Option Addr} {l : List RPlanStep} (h : AtPlanStep w ao l) (hb : Below w.heap.size w w') : AtPlanStep w' ao l := h.kept (fun g _ hg => hb.block g hg) hb.size
theorem AtPlanStep.elem {w : World} {ao : Option Addr} {l : List RPlanStep} (h : AtPlanStep w ao l) {i : Nat} (hi : i < l.length) : ∃ g, ao = some ⟨g, 0, none⟩ ∧ g < w.heap.size ∧ w.cell? ⟨g, i * 6, none⟩ = some (.int .i64 (l[i]'hi).1) ∧ w.cell? ⟨g, i * 6 + 1, none⟩ = some (.int .i64 (l[i]'hi).2.1) ∧ w.cell? ⟨g, i * 6 + 2, none⟩ = some (.int .i64 (l[i]'hi).2.2.1) ∧ w.cell? ⟨g, i * 6 + 3, none⟩ = some (.int .i64 (l[i]'hi).2.2.2.1) ∧ w.cell? ⟨g, i * 6 + 4, none⟩ = some (.int .i64 (l[i]'hi).2.2.2.2.1) ∧ w.cell? ⟨g, i * 6 + 5, none⟩ = some (.int .i64 (l[i]'hi).2.2.2.2.2) := by
  rcases h with rfl | ⟨g, h1, h2, h3⟩
  · simp at hi
  · exact ⟨g, h1, h2, h3 i hi⟩
theorem atPlanStep_owns {w : World} {B : Nat} {ao : Option Addr} {cap : Nat} {l : List RPlanStep} (h : w.ownsRow B 86 6 (.slice ao l.length cap) l.length (valsPlanStep l)) : AtPlanStep w ao l := by
  by_cases he : l = []
  · exact .inl he
  · right
    have hpos : 0 < l.length := List.length_pos_iff.2 he
    rcases h.2 with ⟨_, h0⟩ | ⟨g, c, cur, hv, hg, hh, hn2, hc, hsz, ht⟩
    · omega
    · cases hv
      refine ⟨g, rfl, (Array.getElem?_eq_some_iff.1 hh).1, fun i hi => ?_⟩
      have e1 : ∀ j, j < 6 → cur[i * 6 + j]? = (valsPlanStep l)[i * 6 + j]? := fun j hj => by
        rw [← ht, List.getElem?_take, if_pos (idx_ne hi hj)]
        simp
      simp only [World.cell?, hh]
      exact ⟨(e1 0 (by decide)).trans (valsPlanStep_at0 l i hi), (e1 1 (by decide)).trans (valsPlanStep_at1 l i hi), (e1 2 (by decide)).trans (valsPlanStep_at2 l i hi), (e1 3 (by decide)).trans (valsPlanStep_at3 l i hi), (e1 4 (by decide)).trans (valsPlanStep_at4 l i hi), (e1 5 (by decide)).trans (valsPlanStep_at5 l i hi)⟩

set_option maxHeartbeats 400000 in
theorem eqPlanStepR (x : RPlanStep) (w : World) :
    Calls Tryz.prog 87 #[.agg #[.int .i64 x.1, .int .i64 x.2.1, .int .i64 x.2.2.1, .int .i64 x.2.2.2.1, .int .i64 x.2.2.2.2.1, .int .i64 x.2.2.2.2.2], .agg #[.int .i64 x.1, .int .i64 x.2.1, .int .i64 x.2.2.1, .int .i64 x.2.2.2.1, .int .i64 x.2.2.2.2.1, .int .i64 x.2.2.2.2.2]] w fun e w' => e = .returned (.bool true) ∧ Below w.heap.size w w' := by
  go_enter Tryz.func87, Tryz.ntmps87
  go_wp2
  go_ret
  exact ⟨rfl, by repeat (first | exact Below.refl _ _ | refine Below.alloc ?_ (by simp; try omega) _)⟩

set_option maxHeartbeats 1000000 in
theorem eqPlanStepRS (ao bo : Option Addr) (ca cb : Nat) (l : List RPlanStep) (w : World) (hl : l.length ≤ maxLen) (ha : AtPlanStep w ao l) (hb : AtPlanStep w bo l) :
    Calls Tryz.prog 45 #[.slice ao l.length ca, .slice bo l.length cb] w fun e w' => e = .returned (.bool true) ∧ Below w.heap.size w w' := by
  unfold maxLen at hl
  go_enter Tryz.func45, Tryz.ntmps45
  go_wp2
  go_loopw [5] (fun i wr => ∃ k : Nat, k ≤ l.length ∧ i = .int .i64 k ∧ Below w.heap.size w wr) (fun i _ => l.length - (intOf i).toNat)
  case atStart => exact ⟨0, Nat.zero_le _, rfl, Below.refl _ _⟩
  case round =>
    obtain ⟨k, hk, rfl, hbel⟩ := hrel
    by_cases hlt : k < l.length
    · obtain ⟨g, rfl, hok, c0, c1, c2, c3, c4, c5⟩ := ha.elem hlt
      obtain ⟨g', rfl, hok', c0', c1', c2', c3', c4', c5'⟩ := hb.elem hlt
      have d0 := (hbel.cell (p := ⟨g, k * 6, none⟩) hok).trans c0
      have d1 := (hbel.cell (p := ⟨g, k * 6 + 1, none⟩) hok).trans c1
      have d2 := (hbel.cell (p := ⟨g, k * 6 + 2, none⟩) hok).trans c2
      have d3 := (hbel.cell (p := ⟨g, k * 6 + 3, none⟩) hok).trans c3
      have d4 := (hbel.cell (p := ⟨g, k * 6 + 4, none⟩) hok).trans c4
      have d5 := (hbel.cell (p := ⟨g, k * 6 + 5, none⟩) hok).trans c5
      have d0' := (hbel.cell (p := ⟨g', k * 6, none⟩) hok').trans c0'
      have d1' := (hbel.cell (p := ⟨g', k * 6 + 1, none⟩) hok').trans c1'
      have d2' := (hbel.cell (p := ⟨g', k * 6 + 2, none⟩) hok').trans c2'
      have d3' := (hbel.cell (p := ⟨g', k * 6 + 3, none⟩) hok').trans c3'
      have d4' := (hbel.cell (p := ⟨g', k * 6 + 4, none⟩) hok').trans c4'
      have d5' := (hbel.cell (p := ⟨g', k * 6 + 5, none⟩) hok').trans c5'
      generalize l[k] = x at *
      have hsz := hbel.size
      clear c0 c1 c2 c3 c4 c5 c0' c1' c2' c3' c4' c5' ha hb
      go_wp2
      go_region_with (go_at_call 87; refine (eqPlanStepR _ _).mono ?_; rintro e w1 ⟨rfl, hb1⟩)
      all_goals
        go_wp2
        go_roundw
        case rel => exact ⟨k + 1, by omega, by go_num, hbel.trans (Below.trans (below_drewN (Below.refl _ _) 1) (hb1.mono hsz))⟩
        case measure => simp [intOf]; omega
    · go_wp2
      go_ret
      exact ⟨rfl, hbel⟩

/-- The marks. -/
def mkPlanStep (q : Nat) : RPlanStep := (((q : Nat) : Int), ((q + 1 : Nat) : Int), ((q + 2 : Nat) : Int), ((q + 3 : Nat) : Int), ((q + 4 : Nat) : Int), ((q + 5 : Nat) : Int))
def marksPlanStep (k n : Nat) : List RPlanStep := (List.range n).map fun i => mkPlanStep (k + 6 * i)
theorem marksPlanStep_len (k n : Nat) : (marksPlanStep k n).length = n := by simp [marksPlanStep]
theorem marksPlanStep_succ (k n : Nat) : marksPlanStep k (n + 1) = marksPlanStep k n ++ [mkPlanStep (k + 6 * n)] := by simp [marksPlanStep, List.range_succ]
theorem markPlanStep_set (k j : Nat) (l : List RPlanStep) (hj : j < l.length) : ((((((valsPlanStep (marksPlanStep k j ++ l.drop j)).set (j * 6) (.int .i64 ((k + 6 * j : Nat) : Int))).set (j * 6 + 1) (.int .i64 ((k + 6 * j + 1 : Nat) : Int))).set (j * 6 + 2) (.int .i64 ((k + 6 * j + 2 : Nat) : Int))).set (j * 6 + 3) (.int .i64 ((k + 6 * j + 3 : Nat) : Int))).set (j * 6 + 4) (.int .i64 ((k + 6 * j + 4 : Nat) : Int))).set (j * 6 + 5) (.int .i64 ((k + 6 * j + 5 : Nat) : Int)) = valsPlanStep (marksPlanStep k (j + 1) ++ l.drop (j + 1)) := by
  have e1 : l.drop j = l[j] :: l.drop (j + 1) := List.drop_eq_getElem_cons hj
  have hl : (valsPlanStep (marksPlanStep k j)).length = j * 6 := by rw [valsPlanStep_len, marksPlanStep_len]
  rw [e1, valsPlanStep_app, marksPlanStep_succ, List.append_assoc, valsPlanStep_app, List.singleton_append, valsPlanStep_cons, valsPlanStep_cons]
  generalize valsPlanStep (marksPlanStep k j) = A at *
  generalize valsPlanStep (l.drop (j + 1)) = B at *
  simp only [mkPlanStep]
  rw [List.set_append_right _ _ (by omega), hl, show j * 6 - j * 6 = 0 by omega]
  rw [List.set_append_right _ _ (by omega), hl, show j * 6 + 1 - j * 6 = 1 by omega]
  rw [List.set_append_right _ _ (by omega), hl, show j * 6 + 2 - j * 6 = 2 by omega]
  rw [List.set_append_right _ _ (by omega), hl, show j * 6 + 3 - j * 6 = 3 by omega]
  rw [List.set_append_right _ _ (by omega), hl, show j * 6 + 4 - j * 6 = 4 by omega]
  rw [List.set_append_right _ _ (by omega), hl, show j * 6 + 5 - j * 6 = 5 by omega]
  rfl

theorem markPlanStep_none (ao : Option Addr) (ca : Nat) (k : Int) (w : World) :
    Calls Tryz.prog 46 #[.slice ao 0 ca, .int .i64 k] w fun e w' => e = .returned (.int .i64 k) ∧ w' = w := by
  go_enter Tryz.func46, Tryz.ntmps46
  go_wp2
  go_loop [1, 5] (fun a i => a = .int .i64 k ∧ i = .int .i64 0) (fun _ _ => 0)
  case atStart => exact ⟨rfl, rfl⟩
  case round =>
    obtain ⟨rfl, rfl⟩ := hrel
    go_wp2
    go_ret
    exact ⟨rfl, rfl⟩

set_option maxRecDepth 100000 in
set_option maxHeartbeats 2000000 in
theorem markPlanStep_g (g cap B k : Nat) (l : List RPlanStep) (w : World) (hn : l.length ≤ 1000000000) (hk : k ≤ 1000) (hB : B ≤ w.heap.size)
    (hown : w.ownsRow B 86 6 (.slice (some ⟨g, 0, none⟩) l.length cap) l.length (valsPlanStep l)) :
    Calls Tryz.prog 46 #[.slice (some ⟨g, 0, none⟩) l.length cap, .int .i64 k] w fun e w' => e = .returned (.int .i64 ((k + 6 * l.length : Nat) : Int)) ∧ Below B w w' ∧
      w'.ownsRow B 86 6 (.slice (some ⟨g, 0, none⟩) l.length cap) l.length (valsPlanStep (marksPlanStep k l.length)) := by
  go_enter Tryz.func46, Tryz.ntmps46
  go_wp2
  go_loopw [1, 5] (fun a i wr => ∃ (j q : Nat), j ≤ l.length ∧ i = .int .i64 j ∧ a = .int .i64 q ∧ Hid (q = k + 6 * j) ∧ Below B w wr ∧
     wr.ownsRow B 86 6 (.slice (some ⟨g, 0, none⟩) l.length cap) l.length (valsPlanStep (marksPlanStep k j ++ l.drop j))) (fun _ i _ => l.length - (intOf i).toNat)
  case atStart => exact ⟨0, k, Nat.zero_le _, rfl, rfl, rfl, Below.refl _ _, by simpa [marksPlanStep] using hown⟩
  case round =>
    obtain ⟨j, q, hj, rfl, rfl, hq, hbel, hO⟩ := hrel
    by_cases hlt : j < l.length
    · have hsz := hbel.size
      have hgB : B ≤ g := own_ge hO g rfl
      have HX : Hid _ := markPlanStep_set k j l hlt
      rw [← hq.out] at HX
      have hqb : q ≤ 1099511627776 - 100 := by have := hq.out; omega
      have HQ : Hid (q + 6 = k + 6 * (j + 1)) := by have := hq.out; show _ = _; omega
      have hlen := hO.1
      generalize valsPlanStep (marksPlanStep k j ++ l.drop j) = X0 at *
      clear hown hq
      obtain ⟨v0, d0⟩ : ∃ v, wr.cell? ⟨g, j * 6, none⟩ = some v := ⟨_, by rw [hO.cellAt (j * 6) (by omega)]; exact List.getElem?_eq_getElem (by (try simp only [List.length_set]); have := Nat.mul_le_mul_right 6 hlt; omega)⟩
      have f0 := hO.frozenAt (j * 6)
      obtain ⟨v1, d1⟩ : ∃ v, wr.cell? ⟨g, j * 6 + 1, none⟩ = some v := ⟨_, by rw [hO.cellAt (j * 6 + 1) (by omega)]; exact List.getElem?_eq_getElem (by (try simp only [List.length_set]); have := Nat.mul_le_mul_right 6 hlt; omega)⟩
      have f1 := hO.frozenAt (j * 6 + 1)
      obtain ⟨v2, d2⟩ : ∃ v, wr.cell? ⟨g, j * 6 + 2, none⟩ = some v := ⟨_, by rw [hO.cellAt (j * 6 + 2) (by omega)]; exact List.getElem?_eq_getElem (by (try simp only [List.length_set]); have := Nat.mul_le_mul_right 6 hlt; omega)⟩
      have f2 := hO.frozenAt (j * 6 + 2)
      obtain ⟨v3, d3⟩ : ∃ v, wr.cell? ⟨g, j * 6 + 3, none⟩ = some v := ⟨_, by rw [hO.cellAt (j * 6 + 3) (by omega)]; exact List.getElem?_eq_getElem (by (try simp only [List.length_set]); have := Nat.mul_le_mul_right 6 hlt; omega)⟩
      have f3 := hO.frozenAt (j * 6 + 3)
      obtain ⟨v4, d4⟩ : ∃ v, wr.cell? ⟨g, j * 6 + 4, none⟩ = some v := ⟨_, by rw [hO.cellAt (j * 6 + 4) (by omega)]; exact List.getElem?_eq_getElem (by (try simp only [List.length_set]); have := Nat.mul_le_mul_right 6 hlt; omega)⟩
      have f4 := hO.frozenAt (j * 6 + 4)
      obtain ⟨v5, d5⟩ : ∃ v, wr.cell? ⟨g, j * 6 + 5, none⟩ = some v := ⟨_, by rw [hO.cellAt (j * 6 + 5) (by omega)]; exact List.getElem?_eq_getElem (by (try simp only [List.length_set]); have := Nat.mul_le_mul_right 6 hlt; omega)⟩
      have f5 := hO.frozenAt (j * 6 + 5)
      have hE := ((((((hO.stored (j * 6) (.int .i64 ((q : Nat) : Int))).1.stored (j * 6 + 1) (.int .i64 ((q + 1 : Nat) : Int))).1.stored (j * 6 + 2) (.int .i64 ((q + 2 : Nat) : Int))).1.stored (j * 6 + 3) (.int .i64 ((q + 3 : Nat) : Int))).1.stored (j * 6 + 4) (.int .i64 ((q + 4 : Nat) : Int))).1.stored (j * 6 + 5) (.int .i64 ((q + 5 : Nat) : Int))).1
      have hEB := ((((((hbel.setCell (p := ⟨g, j * 6, none⟩) hgB (.int .i64 ((q : Nat) : Int))).setCell (p := ⟨g, j * 6 + 1, none⟩) hgB (.int .i64 ((q + 1 : Nat) : Int))).setCell (p := ⟨g, j * 6 + 2, none⟩) hgB (.int .i64 ((q + 2 : Nat) : Int))).setCell (p := ⟨g, j * 6 + 3, none⟩) hgB (.int .i64 ((q + 3 : Nat) : Int))).setCell (p := ⟨g, j * 6 + 4, none⟩) hgB (.int .i64 ((q + 4 : Nat) : Int))).setCell (p := ⟨g, j * 6 + 5, none⟩) hgB (.int .i64 ((q + 5 : Nat) : Int)))
      rw [HX.out] at hE
      rw [show ((q + 1 : Nat) : Int) = (q : Int) + 1 from by omega] at hE hEB
      rw [show ((q + 2 : Nat) : Int) = (q : Int) + 1 + 1 from by omega] at hE hEB
      rw [show ((q + 3 : Nat) : Int) = (q : Int) + 1 + 1 + 1 from by omega] at hE hEB
      rw [show ((q + 4 : Nat) : Int) = (q : Int) + 1 + 1 + 1 + 1 from by omega] at hE hEB
      rw [show ((q + 5 : Nat) : Int) = (q : Int) + 1 + 1 + 1 + 1 + 1 from by omega] at hE hEB
      have HE : Hid _ := hE
      have HEB : Hid _ := hEB
      clear hE hEB hO hbel HX hlen
      go_wp2
      go_roundw
      case rel => exact ⟨j + 1, q + 6, by omega, by go_num, by go_num, HQ, HEB.out, HE.out⟩
      case measure => simp [intOf]; omega
    · have hj2 : j = l.length := by omega
      subst hj2
      have hO2 : wr.ownsRow B 86 6 (.slice (some ⟨g, 0, none⟩) l.length cap) l.length (valsPlanStep (marksPlanStep k l.length)) := by simpa using hO
      have HO2 : Hid _ := hO2
      clear hO hO2
      go_wp2
      go_ret
      exact ⟨by rw [hq.out]; rfl, hbel, HO2.out⟩

theorem markPlanStepR (ao : Option Addr) (cap B k : Nat) (l : List RPlanStep) (w : World) (hn : l.length ≤ 1000000000) (hk : k ≤ 1000) (hB : B ≤ w.heap.size)
    (hown : w.ownsRow B 86 6 (.slice ao l.length cap) l.length (valsPlanStep l)) :
    Calls Tryz.prog 46 #[.slice ao l.length cap, .int .i64 k] w fun e w' => e = .returned (.int .i64 ((k + 6 * l.length : Nat) : Int)) ∧ Below B w w' ∧ AtPlanStep w' ao (marksPlanStep k l.length) := by
  cases l with
  | nil =>
    refine (markPlanStep_none ao cap k w).mono fun e w' h => ⟨by rw [h.1]; simp, by rw [h.2]; exact Below.refl _ _, .inl rfl⟩
  | cons x l =>
    obtain ⟨g, cap', hv⟩ := owns_pos (n := l.length) hown
    have hao : ao = some ⟨g, 0, none⟩ := by cases hv; rfl
    subst hao
    refine (markPlanStep_g g cap B k (x :: l) w hn hk hB hown).mono fun e w' h => ⟨h.1, h.2.1, ?_⟩
    have h3 := h.2.2
    have hl := marksPlanStep_len k (x :: l).length
    rw [← hl] at h3
    rw [hl] at h3
    exact atPlanStep_owns (by rw [hl]; exact h3)

theorem heldPlanStep_none (ao : Option Addr) (ca : Nat) (k : Int) (w : World) :
    Calls Tryz.prog 47 #[.slice ao 0 ca, .int .i64 k] w fun e w' => e = .returned (.int .i64 k) ∧ w' = w := by
  go_enter Tryz.func47, Tryz.ntmps47
  go_wp2
  go_loop [1, 5] (fun a i => a = .int .i64 k ∧ i = .int .i64 0) (fun _ _ => 0)
  case atStart => exact ⟨rfl, rfl⟩
  case round =>
    obtain ⟨rfl, rfl⟩ := hrel
    go_wp2
    go_ret
    exact ⟨rfl, rfl⟩

set_option maxRecDepth 100000 in
set_option maxHeartbeats 2000000 in
theorem heldPlanStep_g (g cap k n : Nat) (w : World) (hn : n ≤ 1000000000) (hk : k ≤ 1000)
    (hc : ∀ i, i < n → w.cell? ⟨g, i * 6, none⟩ = some (.int .i64 ((k + 6 * i : Nat) : Int)) ∧ w.cell? ⟨g, i * 6 + 1, none⟩ = some (.int .i64 ((k + 6 * i + 1 : Nat) : Int)) ∧ w.cell? ⟨g, i * 6 + 2, none⟩ = some (.int .i64 ((k + 6 * i + 2 : Nat) : Int)) ∧ w.cell? ⟨g, i * 6 + 3, none⟩ = some (.int .i64 ((k + 6 * i + 3 : Nat) : Int)) ∧ w.cell? ⟨g, i * 6 + 4, none⟩ = some (.int .i64 ((k + 6 * i + 4 : Nat) : Int)) ∧ w.cell? ⟨g, i * 6 + 5, none⟩ = some (.int .i64 ((k + 6 * i + 5 : Nat) : Int))) (hg : g < w.heap.size) :
    Calls Tryz.prog 47 #[.slice (some ⟨g, 0, none⟩) n cap, .int .i64 k] w fun e w' => e = .returned (.int .i64 ((k + 6 * n : Nat) : Int)) ∧ Below w.heap.size w w' := by
  go_enter Tryz.func47, Tryz.ntmps47
  go_wp2
  go_loopw [1, 5] (fun a i wr => ∃ (j q : Nat), j ≤ n ∧ i = .int .i64 j ∧ a = .int .i64 q ∧ Hid (q = k + 6 * j) ∧ Below w.heap.size w wr) (fun _ i _ => n - (intOf i).toNat)
  case atStart => exact ⟨0, k, Nat.zero_le _, rfl, rfl, rfl, Below.refl _ _⟩
  case round =>
    obtain ⟨j, q, hj, rfl, rfl, hq, hbel⟩ := hrel
    by_cases hlt : j < n
    · have hsz := hbel.size
      have hg1 : g < wr.heap.size := by omega
      have hqb : q ≤ 1099511627776 - 100 := by have := hq.out; omega
      have HQ : Hid (q + 6 = k + 6 * (j + 1)) := by have := hq.out; show _ = _; omega
      obtain ⟨e0, e1, e2, e3, e4, e5⟩ := hc j hlt
      rw [← hq.out] at e0 e1 e2 e3 e4 e5
      have c0 := (hbel.cell (p := ⟨g, j * 6, none⟩) hg).trans e0
      have c1 := (hbel.cell (p := ⟨g, j * 6 + 1, none⟩) hg).trans e1
      have c2 := (hbel.cell (p := ⟨g, j * 6 + 2, none⟩) hg).trans e2
      have c3 := (hbel.cell (p := ⟨g, j * 6 + 3, none⟩) hg).trans e3
      have c4 := (hbel.cell (p := ⟨g, j * 6 + 4, none⟩) hg).trans e4
      have c5 := (hbel.cell (p := ⟨g, j * 6 + 5, none⟩) hg).trans e5
      rw [show ((q + 1 : Nat) : Int) = (q : Int) + 1 from by omega] at c1
      rw [show ((q + 2 : Nat) : Int) = (q : Int) + 1 + 1 from by omega] at c2
      rw [show ((q + 3 : Nat) : Int) = (q : Int) + 1 + 1 + 1 from by omega] at c3
      rw [show ((q + 4 : Nat) : Int) = (q : Int) + 1 + 1 + 1 + 1 from by omega] at c4
      rw [show ((q + 5 : Nat) : Int) = (q : Int) + 1 + 1 + 1 + 1 + 1 from by omega] at c5
      clear e0 e1 e2 e3 e4 e5 hq
      go_wp2
      go_roundw
      case rel => exact ⟨j + 1, q + 6, by omega, by go_num, by go_num, HQ, hbel⟩
      case measure => simp [intOf]; omega
    · have hj2 : j = n := by omega
      subst hj2
      go_wp2
      go_ret
      exact ⟨by rw [hq.out]; rfl, hbel⟩

theorem heldPlanStepR (ao : Option Addr) (cap k n : Nat) (w : World) (hn : n ≤ 1000000000) (hk : k ≤ 1000) (h : AtPlanStep w ao (marksPlanStep k n)) :
    Calls Tryz.prog 47 #[.slice ao n cap, .int .i64 k] w fun e w' => e = .returned (.int .i64 ((k + 6 * n : Nat) : Int)) ∧ Below w.heap.size w w' := by
  rcases h with h0 | ⟨g, rfl, hg, hc⟩
  · have : n = 0 := by have := congrArg List.length h0; simpa [marksPlanStep_len] using this
    subst this
    refine (heldPlanStep_none ao cap k w).mono fun e w' h => ⟨by rw [h.1]; simp, by rw [h.2]; exact Below.refl _ _⟩
  · refine heldPlanStep_g g cap k n w hn hk (fun i hi => ?_) hg
    have h4 := hc i (by rw [marksPlanStep_len]; exact hi)
    simpa [marksPlanStep, mkPlanStep] using h4

end Go.Proofs.YtgnjkpmbppmoeaaGreat
