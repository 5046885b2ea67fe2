/- DERIVED. By gr.py: a result that is a list of PlanChange: what it owns; the laws' own eq, mark, held over it. -/
import Derived.Test.YtohgkiljdehefaaGreatGMa
import Derived.Deep.RegionWith
namespace Go.Proofs.YtohgkiljdehefaaGreat
open Go.RowKit
set_option linter.unusedSimpArgs false
set_option linter.unusedVariables false

abbrev RPlanChange := ByteArray × Int × Int × ByteArray
def valsPlanChange (l : List RPlanChange) : List Value := l.flatMap fun x => [.string x.1, .int .i64 x.2.1, .int .i64 x.2.2.1, .string x.2.2.2]
theorem valsPlanChange_len (l : List RPlanChange) : (valsPlanChange l).length = l.length * 4 := by
  induction l with
  | nil => rfl
  | cons x l ih => simp only [valsPlanChange, List.flatMap_cons, List.length_append, List.length_cons, List.length_nil] at ih ⊢; omega
theorem valsPlanChange_cons (x : RPlanChange) (l : List RPlanChange) : valsPlanChange (x :: l) = (.string x.1) :: (.int .i64 x.2.1) :: (.int .i64 x.2.2.1) :: (.string x.2.2.2) :: valsPlanChange l := rfl
theorem valsPlanChange_app (a b : List RPlanChange) : valsPlanChange (a ++ b) = valsPlanChange a ++ valsPlanChange b := by simp [valsPlanChange]
theorem valsPlanChange_snoc (l : List RPlanChange) (x : RPlanChange) : valsPlanChange (l ++ [x]) = valsPlanChange l ++ [.string x.1, .int .i64 x.2.1, .int .i64 x.2.2.1, .string x.2.2.2] := by rw [valsPlanChange_app]; rfl
theorem valsPlanChange_at0 : ∀ (l : List RPlanChange) (i : Nat) (h : i < l.length), (valsPlanChange l)[i * 4]? = some (.string (l[i]'h).1)
  | x :: l, 0, _ => rfl
  | x :: l, i + 1, h => by
    rw [valsPlanChange_cons, show (i + 1) * 4 = i * 4 + 1 + 1 + 1 + 1 by omega]
    simpa using valsPlanChange_at0 l i (by simpa using h)
theorem valsPlanChange_at1 : ∀ (l : List RPlanChange) (i : Nat) (h : i < l.length), (valsPlanChange l)[i * 4 + 1]? = some (.int .i64 (l[i]'h).2.1)
  | x :: l, 0, _ => rfl
  | x :: l, i + 1, h => by
    rw [valsPlanChange_cons, show (i + 1) * 4 + 1 = i * 4 + 1 + 1 + 1 + 1 + 1 by omega]
    simpa using valsPlanChange_at1 l i (by simpa using h)
theorem valsPlanChange_at2 : ∀ (l : List RPlanChange) (i : Nat) (h : i < l.length), (valsPlanChange l)[i * 4 + 2]? = some (.int .i64 (l[i]'h).2.2.1)
  | x :: l, 0, _ => rfl
  | x :: l, i + 1, h => by
    rw [valsPlanChange_cons, show (i + 1) * 4 + 2 = i * 4 + 2 + 1 + 1 + 1 + 1 by omega]
    simpa using valsPlanChange_at2 l i (by simpa using h)
theorem valsPlanChange_at3 : ∀ (l : List RPlanChange) (i : Nat) (h : i < l.length), (valsPlanChange l)[i * 4 + 3]? = some (.string (l[i]'h).2.2.2)
  | x :: l, 0, _ => rfl
  | x :: l, i + 1, h => by
    rw [valsPlanChange_cons, show (i + 1) * 4 + 3 = i * 4 + 3 + 1 + 1 + 1 + 1 by omega]
    simpa using valsPlanChange_at3 l i (by simpa using h)

/-- Where a slice's elements are l, from cell 0 of its block on. -/
def AtPlanChange (w : World) (ao : Option Addr) (l : List RPlanChange) : Prop :=
  l = [] ∨ ∃ g, ao = some ⟨g, 0, none⟩ ∧ g < w.heap.size ∧ ∀ i (h : i < l.length), w.cell? ⟨g, i * 4, none⟩ = some (.string (l[i]'h).1) ∧ w.cell? ⟨g, i * 4 + 1, none⟩ = some (.int .i64 (l[i]'h).2.1) ∧ w.cell? ⟨g, i * 4 + 2, none⟩ = some (.int .i64 (l[i]'h).2.2.1) ∧ w.cell? ⟨g, i * 4 + 3, none⟩ = some (.string (l[i]'h).2.2.2)
theorem AtPlanChange.kept {w w' : World} {ao : Option Addr} {l : List RPlanChange} (h : AtPlanChange w ao l) (hb : ∀ g, ao = some ⟨g, 0, none⟩ → g < w.heap.size → w'.heap[g]? = w.heap[g]?) (hs : w.heap.size ≤ w'.heap.size) : AtPlanChange w' ao l := by
  rcases h with h0 | ⟨g, h1, h2, h3⟩
  · exact .inl h0
  · refine .inr ⟨g, h1, by omega, fun i hi => ?_⟩
    have hk := fun o => World.cell?_of_block (a := ⟨g, o, none⟩) (hb g h1 h2)
    have h4 := h3 i hi
    exact ⟨(hk _).trans h4.1, (hk _).trans h4.2.1, (hk _).trans h4.2.2.1, (hk _).trans h4.2.2.2⟩
theorem AtPlanChange.later {w w' : World} {ao : Option Addr} {l : List RPlanChange} (h : AtPlanChange w ao l) (hb : Below w.heap.size w w') : AtPlanChange w' ao l := h.kept (fun g _ hg => hb.block g hg) hb.size
theorem AtPlanChange.elem {w : World} {ao : Option Addr} {l : List RPlanChange} (h : AtPlanChange w ao l) {i : Nat} (hi : i < l.length) : ∃ g, ao = some ⟨g, 0, none⟩ ∧ g < w.heap.size ∧ w.cell? ⟨g, i * 4, none⟩ = some (.string (l[i]'hi).1) ∧ w.cell? ⟨g, i * 4 + 1, none⟩ = some (.int .i64 (l[i]'hi).2.1) ∧ w.cell? ⟨g, i * 4 + 2, none⟩ = some (.int .i64 (l[i]'hi).2.2.1) ∧ w.cell? ⟨g, i * 4 + 3, none⟩ = some (.string (l[i]'hi).2.2.2) := by
  rcases h with rfl | ⟨g, h1, h2, h3⟩
  · simp at hi
  · exact ⟨g, h1, h2, h3 i hi⟩
theorem atPlanChange_owns {w : World} {B : Nat} {ao : Option Addr} {cap : Nat} {l : List RPlanChange} (h : w.ownsRow B 55 4 (.slice ao l.length cap) l.length (valsPlanChange l)) : AtPlanChange w ao l := by
  by_cases he : l = []
  · exact .inl he
  · right
    have hpos : 0 < l.length := List.length_pos_iff.2 he
    rcases h.2 with ⟨_, h0⟩ | ⟨g, c, cur, hv, hg, hh, hn2, hc, hsz, ht⟩
    · omega
    · cases hv
      refine ⟨g, rfl, (Array.getElem?_eq_some_iff.1 hh).1, fun i hi => ?_⟩
      have e1 : ∀ j, j < 4 → cur[i * 4 + j]? = (valsPlanChange l)[i * 4 + j]? := fun j hj => by
        rw [← ht, List.getElem?_take, if_pos (idx_ne hi hj)]
        simp
      simp only [World.cell?, hh]
      exact ⟨(e1 0 (by decide)).trans (valsPlanChange_at0 l i hi), (e1 1 (by decide)).trans (valsPlanChange_at1 l i hi), (e1 2 (by decide)).trans (valsPlanChange_at2 l i hi), (e1 3 (by decide)).trans (valsPlanChange_at3 l i hi)⟩

set_option maxHeartbeats 400000 in
theorem eqPlanChangeR (x : RPlanChange) (w : World) :
    Calls Tryz.prog 24 #[.agg #[.string x.1, .int .i64 x.2.1, .int .i64 x.2.2.1, .string x.2.2.2], .agg #[.string x.1, .int .i64 x.2.1, .int .i64 x.2.2.1, .string x.2.2.2]] w fun e w' => e = .returned (.bool true) ∧ Below w.heap.size w w' := by
  go_enter Tryz.func24, Tryz.ntmps24
  go_wp2
  go_ret
  exact ⟨rfl, by repeat (first | exact Below.refl _ _ | refine Below.alloc ?_ (by simp; try omega) _)⟩

set_option maxHeartbeats 1000000 in
theorem eqPlanChangeRS (ao bo : Option Addr) (ca cb : Nat) (l : List RPlanChange) (w : World) (hl : l.length ≤ maxLen) (ha : AtPlanChange w ao l) (hb : AtPlanChange w bo l) :
    Calls Tryz.prog 8 #[.slice ao l.length ca, .slice bo l.length cb] w fun e w' => e = .returned (.bool true) ∧ Below w.heap.size w w' := by
  unfold maxLen at hl
  go_enter Tryz.func8, Tryz.ntmps8
  go_wp2
  go_loopw [5] (fun i wr => ∃ k : Nat, k ≤ l.length ∧ i = .int .i64 k ∧ Below w.heap.size w wr) (fun i _ => l.length - (intOf i).toNat)
  case atStart => exact ⟨0, Nat.zero_le _, rfl, Below.refl _ _⟩
  case round =>
    obtain ⟨k, hk, rfl, hbel⟩ := hrel
    by_cases hlt : k < l.length
    · obtain ⟨g, rfl, hok, c0, c1, c2, c3⟩ := ha.elem hlt
      obtain ⟨g', rfl, hok', c0', c1', c2', c3'⟩ := hb.elem hlt
      have d0 := (hbel.cell (p := ⟨g, k * 4, none⟩) hok).trans c0
      have d1 := (hbel.cell (p := ⟨g, k * 4 + 1, none⟩) hok).trans c1
      have d2 := (hbel.cell (p := ⟨g, k * 4 + 2, none⟩) hok).trans c2
      have d3 := (hbel.cell (p := ⟨g, k * 4 + 3, none⟩) hok).trans c3
      have d0' := (hbel.cell (p := ⟨g', k * 4, none⟩) hok').trans c0'
      have d1' := (hbel.cell (p := ⟨g', k * 4 + 1, none⟩) hok').trans c1'
      have d2' := (hbel.cell (p := ⟨g', k * 4 + 2, none⟩) hok').trans c2'
      have d3' := (hbel.cell (p := ⟨g', k * 4 + 3, none⟩) hok').trans c3'
      generalize l[k] = x at *
      have hsz := hbel.size
      clear c0 c1 c2 c3 c0' c1' c2' c3' ha hb
      go_wp2
      go_region_with (go_at_call 24; refine (eqPlanChangeR _ _).mono ?_; rintro e w1 ⟨rfl, hb1⟩)
      all_goals
        go_wp2
        go_roundw
        case rel => exact ⟨k + 1, by omega, by go_num, hbel.trans (Below.trans (below_drewN (Below.refl _ _) 1) (hb1.mono hsz))⟩
        case measure => simp [intOf]; omega
    · go_wp2
      go_ret
      exact ⟨rfl, hbel⟩

/-- The marks. -/
def mkPlanChange (q : Nat) : RPlanChange := (mkB (q), ((q + 1 : Nat) : Int), ((q + 2 : Nat) : Int), mkB (q + 3))
def marksPlanChange (k n : Nat) : List RPlanChange := (List.range n).map fun i => mkPlanChange (k + 4 * i)
theorem marksPlanChange_len (k n : Nat) : (marksPlanChange k n).length = n := by simp [marksPlanChange]
theorem marksPlanChange_succ (k n : Nat) : marksPlanChange k (n + 1) = marksPlanChange k n ++ [mkPlanChange (k + 4 * n)] := by simp [marksPlanChange, List.range_succ]
theorem markPlanChange_set (k j : Nat) (l : List RPlanChange) (hj : j < l.length) : ((((valsPlanChange (marksPlanChange k j ++ l.drop j)).set (j * 4) (.string (mkB (k + 4 * j)))).set (j * 4 + 1) (.int .i64 ((k + 4 * j + 1 : Nat) : Int))).set (j * 4 + 2) (.int .i64 ((k + 4 * j + 2 : Nat) : Int))).set (j * 4 + 3) (.string (mkB (k + 4 * j + 3))) = valsPlanChange (marksPlanChange k (j + 1) ++ l.drop (j + 1)) := by
  have e1 : l.drop j = l[j] :: l.drop (j + 1) := List.drop_eq_getElem_cons hj
  have hl : (valsPlanChange (marksPlanChange k j)).length = j * 4 := by rw [valsPlanChange_len, marksPlanChange_len]
  rw [e1, valsPlanChange_app, marksPlanChange_succ, List.append_assoc, valsPlanChange_app, List.singleton_append, valsPlanChange_cons, valsPlanChange_cons]
  generalize valsPlanChange (marksPlanChange k j) = A at *
  generalize valsPlanChange (l.drop (j + 1)) = B at *
  simp only [mkPlanChange]
  rw [List.set_append_right _ _ (by omega), hl, show j * 4 - j * 4 = 0 by omega]
  rw [List.set_append_right _ _ (by omega), hl, show j * 4 + 1 - j * 4 = 1 by omega]
  rw [List.set_append_right _ _ (by omega), hl, show j * 4 + 2 - j * 4 = 2 by omega]
  rw [List.set_append_right _ _ (by omega), hl, show j * 4 + 3 - j * 4 = 3 by omega]
  rfl

theorem markPlanChange_none (ao : Option Addr) (ca : Nat) (k : Int) (w : World) :
    Calls Tryz.prog 11 #[.slice ao 0 ca, .int .i64 k] w fun e w' => e = .returned (.int .i64 k) ∧ w' = w := by
  go_enter Tryz.func11, Tryz.ntmps11
  go_wp2
  go_loop [1, 5] (fun a i => a = .int .i64 k ∧ i = .int .i64 0) (fun _ _ => 0)
  case atStart => exact ⟨rfl, rfl⟩
  case round =>
    obtain ⟨rfl, rfl⟩ := hrel
    go_wp2
    go_ret
    exact ⟨rfl, rfl⟩

set_option maxRecDepth 100000 in
set_option maxHeartbeats 2000000 in
theorem markPlanChange_g (g cap B k : Nat) (l : List RPlanChange) (w : World) (hn : l.length ≤ 1000000000) (hk : k ≤ 1000) (hB : B ≤ w.heap.size)
    (hown : w.ownsRow B 55 4 (.slice (some ⟨g, 0, none⟩) l.length cap) l.length (valsPlanChange l)) :
    Calls Tryz.prog 11 #[.slice (some ⟨g, 0, none⟩) l.length cap, .int .i64 k] w fun e w' => e = .returned (.int .i64 ((k + 4 * l.length : Nat) : Int)) ∧ Below B w w' ∧
      w'.ownsRow B 55 4 (.slice (some ⟨g, 0, none⟩) l.length cap) l.length (valsPlanChange (marksPlanChange k l.length)) := by
  go_enter Tryz.func11, Tryz.ntmps11
  go_wp2
  go_loopw [1, 5] (fun a i wr => ∃ (j q : Nat), j ≤ l.length ∧ i = .int .i64 j ∧ a = .int .i64 q ∧ Hid (q = k + 4 * j) ∧ Below B w wr ∧
     wr.ownsRow B 55 4 (.slice (some ⟨g, 0, none⟩) l.length cap) l.length (valsPlanChange (marksPlanChange k j ++ l.drop j))) (fun _ i _ => l.length - (intOf i).toNat)
  case atStart => exact ⟨0, k, Nat.zero_le _, rfl, rfl, rfl, Below.refl _ _, by simpa [marksPlanChange] using hown⟩
  case round =>
    obtain ⟨j, q, hj, rfl, rfl, hq, hbel, hO⟩ := hrel
    by_cases hlt : j < l.length
    · have hsz := hbel.size
      have hgB : B ≤ g := own_ge hO g rfl
      have HX : Hid _ := markPlanChange_set k j l hlt
      rw [← hq.out] at HX
      have hqb : q ≤ 1099511627776 - 100 := by have := hq.out; omega
      have HQ : Hid (q + 4 = k + 4 * (j + 1)) := by have := hq.out; show _ = _; omega
      have hlen := hO.1
      generalize valsPlanChange (marksPlanChange k j ++ l.drop j) = X0 at *
      clear hown hq
      obtain ⟨v0, d0⟩ : ∃ v, wr.cell? ⟨g, j * 4, none⟩ = some v := ⟨_, by rw [hO.cellAt (j * 4) (by omega)]; exact List.getElem?_eq_getElem (by (try simp only [List.length_set]); have := Nat.mul_le_mul_right 4 hlt; omega)⟩
      have f0 := hO.frozenAt (j * 4)
      obtain ⟨v1, d1⟩ : ∃ v, wr.cell? ⟨g, j * 4 + 1, none⟩ = some v := ⟨_, by rw [hO.cellAt (j * 4 + 1) (by omega)]; exact List.getElem?_eq_getElem (by (try simp only [List.length_set]); have := Nat.mul_le_mul_right 4 hlt; omega)⟩
      have f1 := hO.frozenAt (j * 4 + 1)
      obtain ⟨v2, d2⟩ : ∃ v, wr.cell? ⟨g, j * 4 + 2, none⟩ = some v := ⟨_, by rw [hO.cellAt (j * 4 + 2) (by omega)]; exact List.getElem?_eq_getElem (by (try simp only [List.length_set]); have := Nat.mul_le_mul_right 4 hlt; omega)⟩
      have f2 := hO.frozenAt (j * 4 + 2)
      obtain ⟨v3, d3⟩ : ∃ v, wr.cell? ⟨g, j * 4 + 3, none⟩ = some v := ⟨_, by rw [hO.cellAt (j * 4 + 3) (by omega)]; exact List.getElem?_eq_getElem (by (try simp only [List.length_set]); have := Nat.mul_le_mul_right 4 hlt; omega)⟩
      have f3 := hO.frozenAt (j * 4 + 3)
      have hP1 := hO
      have hPB1 := hbel
      have hPs1 := hPB1.size
      go_wp2_with fail
      refine (markText_int _ _ (by omega) (by omega)).mono ?_
      rintro e w1 ⟨rfl, hb1⟩
      rw [show ((q : Int)).toNat = q from by omega, show (⟨(markL (q)).toArray⟩ : ByteArray) = mkB (q) from rfl]
      have hO1 := owns_below hP1 hb1
      have hB1 := hPB1.trans (hb1.mono (Nat.le_trans (show B ≤ w.heap.size by omega) hPs1))
      clear hP1 hPB1 hPs1 hb1 hO hbel d0 f0 d1 f1 d2 f2 d3 f3
      obtain ⟨v0, d0⟩ : ∃ v, w1.cell? ⟨g, j * 4, none⟩ = some v := ⟨_, by rw [hO1.cellAt (j * 4) (by omega)]; exact List.getElem?_eq_getElem (by (try simp only [List.length_set]); have := Nat.mul_le_mul_right 4 hlt; omega)⟩
      have f0 := hO1.frozenAt (j * 4)
      obtain ⟨v1, d1⟩ : ∃ v, w1.cell? ⟨g, j * 4 + 1, none⟩ = some v := ⟨_, by rw [hO1.cellAt (j * 4 + 1) (by omega)]; exact List.getElem?_eq_getElem (by (try simp only [List.length_set]); have := Nat.mul_le_mul_right 4 hlt; omega)⟩
      have f1 := hO1.frozenAt (j * 4 + 1)
      obtain ⟨v2, d2⟩ : ∃ v, w1.cell? ⟨g, j * 4 + 2, none⟩ = some v := ⟨_, by rw [hO1.cellAt (j * 4 + 2) (by omega)]; exact List.getElem?_eq_getElem (by (try simp only [List.length_set]); have := Nat.mul_le_mul_right 4 hlt; omega)⟩
      have f2 := hO1.frozenAt (j * 4 + 2)
      obtain ⟨v3, d3⟩ : ∃ v, w1.cell? ⟨g, j * 4 + 3, none⟩ = some v := ⟨_, by rw [hO1.cellAt (j * 4 + 3) (by omega)]; exact List.getElem?_eq_getElem (by (try simp only [List.length_set]); have := Nat.mul_le_mul_right 4 hlt; omega)⟩
      have f3 := hO1.frozenAt (j * 4 + 3)
      have hP2 := (((hO1.stored (j * 4) (.string (mkB (q)))).1.stored (j * 4 + 1) (.int .i64 ((q + 1 : Nat) : Int))).1.stored (j * 4 + 2) (.int .i64 ((q + 2 : Nat) : Int))).1
      have hPB2 := (((hB1.setCell (p := ⟨g, j * 4, none⟩) hgB (.string (mkB (q)))).setCell (p := ⟨g, j * 4 + 1, none⟩) hgB (.int .i64 ((q + 1 : Nat) : Int))).setCell (p := ⟨g, j * 4 + 2, none⟩) hgB (.int .i64 ((q + 2 : Nat) : Int)))
      have hPs2 := hPB2.size
      go_wp2_with fail
      refine (markText_int _ _ (by omega) (by omega)).mono ?_
      rintro e w2 ⟨rfl, hb2⟩
      rw [show ((q : Int) + 1 + 1 + 1).toNat = q + 3 from by omega, show (⟨(markL (q + 3)).toArray⟩ : ByteArray) = mkB (q + 3) from rfl]
      have hO2 := owns_below hP2 hb2
      have hB2 := hPB2.trans (hb2.mono (Nat.le_trans (show B ≤ w.heap.size by omega) hPs2))
      clear hP2 hPB2 hPs2 hb2 hO1 hB1 d0 f0 d1 f1 d2 f2 d3 f3
      obtain ⟨v3, d3⟩ : ∃ v, w2.cell? ⟨g, j * 4 + 3, none⟩ = some v := ⟨_, by rw [hO2.cellAt (j * 4 + 3) (by omega)]; exact List.getElem?_eq_getElem (by (try simp only [List.length_set]); have := Nat.mul_le_mul_right 4 hlt; omega)⟩
      have f3 := hO2.frozenAt (j * 4 + 3)
      have hE := (hO2.stored (j * 4 + 3) (.string (mkB (q + 3)))).1
      have hEB := (hB2.setCell (p := ⟨g, j * 4 + 3, none⟩) hgB (.string (mkB (q + 3))))
      rw [HX.out] at hE
      have HE : Hid _ := hE
      have HEB : Hid _ := hEB
      clear hE hEB hO2 hB2 HX hlen
      go_wp2
      go_roundw
      case rel => exact ⟨j + 1, q + 4, by omega, by go_num, by go_num, HQ, HEB.out, HE.out⟩
      case measure => simp [intOf]; omega
    · have hj2 : j = l.length := by omega
      subst hj2
      have hO2 : wr.ownsRow B 55 4 (.slice (some ⟨g, 0, none⟩) l.length cap) l.length (valsPlanChange (marksPlanChange k l.length)) := by simpa using hO
      have HO2 : Hid _ := hO2
      clear hO hO2
      go_wp2
      go_ret
      exact ⟨by rw [hq.out]; rfl, hbel, HO2.out⟩

theorem markPlanChangeR (ao : Option Addr) (cap B k : Nat) (l : List RPlanChange) (w : World) (hn : l.length ≤ 1000000000) (hk : k ≤ 1000) (hB : B ≤ w.heap.size)
    (hown : w.ownsRow B 55 4 (.slice ao l.length cap) l.length (valsPlanChange l)) :
    Calls Tryz.prog 11 #[.slice ao l.length cap, .int .i64 k] w fun e w' => e = .returned (.int .i64 ((k + 4 * l.length : Nat) : Int)) ∧ Below B w w' ∧ AtPlanChange w' ao (marksPlanChange k l.length) := by
  cases l with
  | nil =>
    refine (markPlanChange_none ao cap k w).mono fun e w' h => ⟨by rw [h.1]; simp, by rw [h.2]; exact Below.refl _ _, .inl rfl⟩
  | cons x l =>
    obtain ⟨g, cap', hv⟩ := owns_pos (n := l.length) hown
    have hao : ao = some ⟨g, 0, none⟩ := by cases hv; rfl
    subst hao
    refine (markPlanChange_g g cap B k (x :: l) w hn hk hB hown).mono fun e w' h => ⟨h.1, h.2.1, ?_⟩
    have h3 := h.2.2
    have hl := marksPlanChange_len k (x :: l).length
    rw [← hl] at h3
    rw [hl] at h3
    exact atPlanChange_owns (by rw [hl]; exact h3)

theorem heldPlanChange_none (ao : Option Addr) (ca : Nat) (k : Int) (w : World) :
    Calls Tryz.prog 12 #[.slice ao 0 ca, .int .i64 k] w fun e w' => e = .returned (.int .i64 k) ∧ w' = w := by
  go_enter Tryz.func12, Tryz.ntmps12
  go_wp2
  go_loop [1, 5] (fun a i => a = .int .i64 k ∧ i = .int .i64 0) (fun _ _ => 0)
  case atStart => exact ⟨rfl, rfl⟩
  case round =>
    obtain ⟨rfl, rfl⟩ := hrel
    go_wp2
    go_ret
    exact ⟨rfl, rfl⟩

set_option maxRecDepth 100000 in
set_option maxHeartbeats 2000000 in
theorem heldPlanChange_g (g cap k n : Nat) (w : World) (hn : n ≤ 1000000000) (hk : k ≤ 1000)
    (hc : ∀ i, i < n → w.cell? ⟨g, i * 4, none⟩ = some (.string (mkB (k + 4 * i))) ∧ w.cell? ⟨g, i * 4 + 1, none⟩ = some (.int .i64 ((k + 4 * i + 1 : Nat) : Int)) ∧ w.cell? ⟨g, i * 4 + 2, none⟩ = some (.int .i64 ((k + 4 * i + 2 : Nat) : Int)) ∧ w.cell? ⟨g, i * 4 + 3, none⟩ = some (.string (mkB (k + 4 * i + 3)))) (hg : g < w.heap.size) :
    Calls Tryz.prog 12 #[.slice (some ⟨g, 0, none⟩) n cap, .int .i64 k] w fun e w' => e = .returned (.int .i64 ((k + 4 * n : Nat) : Int)) ∧ Below w.heap.size w w' := by
  go_enter Tryz.func12, Tryz.ntmps12
  go_wp2
  go_loopw [1, 5] (fun a i wr => ∃ (j q : Nat), j ≤ n ∧ i = .int .i64 j ∧ a = .int .i64 q ∧ Hid (q = k + 4 * j) ∧ Below w.heap.size w wr) (fun _ i _ => n - (intOf i).toNat)
  case atStart => exact ⟨0, k, Nat.zero_le _, rfl, rfl, rfl, Below.refl _ _⟩
  case round =>
    obtain ⟨j, q, hj, rfl, rfl, hq, hbel⟩ := hrel
    by_cases hlt : j < n
    · have hsz := hbel.size
      have hg1 : g < wr.heap.size := by omega
      have hqb : q ≤ 1099511627776 - 100 := by have := hq.out; omega
      have HQ : Hid (q + 4 = k + 4 * (j + 1)) := by have := hq.out; show _ = _; omega
      obtain ⟨e0, e1, e2, e3⟩ := hc j hlt
      rw [← hq.out] at e0 e1 e2 e3
      have c0 := (hbel.cell (p := ⟨g, j * 4, none⟩) hg).trans e0
      have c1 := (hbel.cell (p := ⟨g, j * 4 + 1, none⟩) hg).trans e1
      have c2 := (hbel.cell (p := ⟨g, j * 4 + 2, none⟩) hg).trans e2
      have c3 := (hbel.cell (p := ⟨g, j * 4 + 3, none⟩) hg).trans e3
      rw [show ((q + 1 : Nat) : Int) = (q : Int) + 1 from by omega] at c1
      rw [show ((q + 2 : Nat) : Int) = (q : Int) + 1 + 1 from by omega] at c2
      clear e0 e1 e2 e3 hq
      go_wp2
      go_region_with (go_at_call 29; refine (markText_int _ _ (by omega) (by omega)).mono ?_; rintro e w1 ⟨rfl, hb1⟩; rw [show ((q : Int)).toNat = q from by omega, show (⟨(markL (q)).toArray⟩ : ByteArray) = mkB (q) from rfl]; have c0 := (hb1.cell (p := ⟨g, j * 4, none⟩) (by simpa using hg1)).trans (by simpa using c0); have c1 := (hb1.cell (p := ⟨g, j * 4 + 1, none⟩) (by simpa using hg1)).trans (by simpa using c1); have c2 := (hb1.cell (p := ⟨g, j * 4 + 2, none⟩) (by simpa using hg1)).trans (by simpa using c2); have c3 := (hb1.cell (p := ⟨g, j * 4 + 3, none⟩) (by simpa using hg1)).trans (by simpa using c3))
      all_goals
        have hB1 := hbel.drew.trans (hb1.mono hsz)
        have hg1 : g < w1.heap.size := by have := hB1.size; omega
        have hsz := hB1.size
        go_wp2
        go_region_with (go_at_call 29; refine (markText_int _ _ (by omega) (by omega)).mono ?_; rintro e w2 ⟨rfl, hb2⟩; rw [show ((q : Int) + 1 + 1 + 1).toNat = q + 3 from by omega, show (⟨(markL (q + 3)).toArray⟩ : ByteArray) = mkB (q + 3) from rfl]; have c3 := (hb2.cell (p := ⟨g, j * 4 + 3, none⟩) (by simpa using hg1)).trans (by simpa using c3))
        all_goals
          have hB2 := hB1.drew.trans (hb2.mono hsz)
          go_wp2
          go_roundw
          case rel => exact ⟨j + 1, q + 4, by omega, by go_num, by go_num, HQ, hB2⟩
          case measure => simp [intOf]; omega
    · have hj2 : j = n := by omega
      subst hj2
      go_wp2
      go_ret
      exact ⟨by rw [hq.out]; rfl, hbel⟩

theorem heldPlanChangeR (ao : Option Addr) (cap k n : Nat) (w : World) (hn : n ≤ 1000000000) (hk : k ≤ 1000) (h : AtPlanChange w ao (marksPlanChange k n)) :
    Calls Tryz.prog 12 #[.slice ao n cap, .int .i64 k] w fun e w' => e = .returned (.int .i64 ((k + 4 * n : Nat) : Int)) ∧ Below w.heap.size w w' := by
  rcases h with h0 | ⟨g, rfl, hg, hc⟩
  · have : n = 0 := by have := congrArg List.length h0; simpa [marksPlanChange_len] using this
    subst this
    refine (heldPlanChange_none ao cap k w).mono fun e w' h => ⟨by rw [h.1]; simp, by rw [h.2]; exact Below.refl _ _⟩
  · refine heldPlanChange_g g cap k n w hn hk (fun i hi => ?_) hg
    have h4 := hc i (by rw [marksPlanChange_len]; exact hi)
    simpa [marksPlanChange, mkPlanChange] using h4

end Go.Proofs.YtohgkiljdehefaaGreat
