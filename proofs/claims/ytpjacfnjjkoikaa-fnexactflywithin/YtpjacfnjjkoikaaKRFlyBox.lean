/- DERIVED. By gr.py: a result that is a list of FlyBox: what it owns; the laws' own eq, mark, held over it. -/
import Derived.Test.YtpjacfnjjkoikaaKOr0
import Derived.Test.YtpjacfnjjkoikaaRows
import Derived.WalkKit
import Derived.WalkSpells
import Derived.WalkLawsBesides
import Derived.Deep.QuietTactic
import Derived.BigQuiet
import Derived.Deep.RegionWith
namespace Go.Proofs.Ytpjacfnjjkoikaa
open Go.RowKit
set_option linter.unusedSimpArgs false
set_option linter.unusedVariables false

abbrev RFlyBox := Int × Int × Int × Int × Int × Int
def valsFlyBox (l : List RFlyBox) : List Value := l.flatMap fun x => [.int .i64 x.1, .int .i64 x.2.1, .int .i64 x.2.2.1, .int .i64 x.2.2.2.1, .int .i64 x.2.2.2.2.1, .int .i64 x.2.2.2.2.2]
theorem valsFlyBox_len (l : List RFlyBox) : (valsFlyBox l).length = l.length * 6 := by
  induction l with
  | nil => rfl
  | cons x l ih => simp only [valsFlyBox, List.flatMap_cons, List.length_append, List.length_cons, List.length_nil] at ih ⊢; omega
theorem valsFlyBox_cons (x : RFlyBox) (l : List RFlyBox) : valsFlyBox (x :: l) = (.int .i64 x.1) :: (.int .i64 x.2.1) :: (.int .i64 x.2.2.1) :: (.int .i64 x.2.2.2.1) :: (.int .i64 x.2.2.2.2.1) :: (.int .i64 x.2.2.2.2.2) :: valsFlyBox l := rfl
theorem valsFlyBox_app (a b : List RFlyBox) : valsFlyBox (a ++ b) = valsFlyBox a ++ valsFlyBox b := by simp [valsFlyBox]
theorem valsFlyBox_snoc (l : List RFlyBox) (x : RFlyBox) : valsFlyBox (l ++ [x]) = valsFlyBox l ++ [.int .i64 x.1, .int .i64 x.2.1, .int .i64 x.2.2.1, .int .i64 x.2.2.2.1, .int .i64 x.2.2.2.2.1, .int .i64 x.2.2.2.2.2] := by rw [valsFlyBox_app]; rfl
theorem valsFlyBox_at0 : ∀ (l : List RFlyBox) (i : Nat) (h : i < l.length), (valsFlyBox l)[i * 6]? = some (.int .i64 (l[i]'h).1)
  | x :: l, 0, _ => rfl
  | x :: l, i + 1, h => by
    rw [valsFlyBox_cons, show (i + 1) * 6 = i * 6 + 1 + 1 + 1 + 1 + 1 + 1 by omega]
    simpa using valsFlyBox_at0 l i (by simpa using h)
theorem valsFlyBox_at1 : ∀ (l : List RFlyBox) (i : Nat) (h : i < l.length), (valsFlyBox l)[i * 6 + 1]? = some (.int .i64 (l[i]'h).2.1)
  | x :: l, 0, _ => rfl
  | x :: l, i + 1, h => by
    rw [valsFlyBox_cons, show (i + 1) * 6 + 1 = i * 6 + 1 + 1 + 1 + 1 + 1 + 1 + 1 by omega]
    simpa using valsFlyBox_at1 l i (by simpa using h)
theorem valsFlyBox_at2 : ∀ (l : List RFlyBox) (i : Nat) (h : i < l.length), (valsFlyBox l)[i * 6 + 2]? = some (.int .i64 (l[i]'h).2.2.1)
  | x :: l, 0, _ => rfl
  | x :: l, i + 1, h => by
    rw [valsFlyBox_cons, show (i + 1) * 6 + 2 = i * 6 + 2 + 1 + 1 + 1 + 1 + 1 + 1 by omega]
    simpa using valsFlyBox_at2 l i (by simpa using h)
theorem valsFlyBox_at3 : ∀ (l : List RFlyBox) (i : Nat) (h : i < l.length), (valsFlyBox l)[i * 6 + 3]? = some (.int .i64 (l[i]'h).2.2.2.1)
  | x :: l, 0, _ => rfl
  | x :: l, i + 1, h => by
    rw [valsFlyBox_cons, show (i + 1) * 6 + 3 = i * 6 + 3 + 1 + 1 + 1 + 1 + 1 + 1 by omega]
    simpa using valsFlyBox_at3 l i (by simpa using h)
theorem valsFlyBox_at4 : ∀ (l : List RFlyBox) (i : Nat) (h : i < l.length), (valsFlyBox l)[i * 6 + 4]? = some (.int .i64 (l[i]'h).2.2.2.2.1)
  | x :: l, 0, _ => rfl
  | x :: l, i + 1, h => by
    rw [valsFlyBox_cons, show (i + 1) * 6 + 4 = i * 6 + 4 + 1 + 1 + 1 + 1 + 1 + 1 by omega]
    simpa using valsFlyBox_at4 l i (by simpa using h)
theorem valsFlyBox_at5 : ∀ (l : List RFlyBox) (i : Nat) (h : i < l.length), (valsFlyBox l)[i * 6 + 5]? = some (.int .i64 (l[i]'h).2.2.2.2.2)
  | x :: l, 0, _ => rfl
  | x :: l, i + 1, h => by
    rw [valsFlyBox_cons, show (i + 1) * 6 + 5 = i * 6 + 5 + 1 + 1 + 1 + 1 + 1 + 1 by omega]
    simpa using valsFlyBox_at5 l i (by simpa using h)

/-- Where a slice's elements are l, from cell 0 of its block on. -/
def AtFlyBox (w : World) (ao : Option Addr) (l : List RFlyBox) : Prop :=
  l = [] ∨ ∃ g, ao = some ⟨g, 0, none⟩ ∧ g < w.heap.size ∧ ∀ i (h : i < l.length), w.cell? ⟨g, i * 6, none⟩ = some (.int .i64 (l[i]'h).1) ∧ w.cell? ⟨g, i * 6 + 1, none⟩ = some (.int .i64 (l[i]'h).2.1) ∧ w.cell? ⟨g, i * 6 + 2, none⟩ = some (.int .i64 (l[i]'h).2.2.1) ∧ w.cell? ⟨g, i * 6 + 3, none⟩ = some (.int .i64 (l[i]'h).2.2.2.1) ∧ w.cell? ⟨g, i * 6 + 4, none⟩ = some (.int .i64 (l[i]'h).2.2.2.2.1) ∧ w.cell? ⟨g, i * 6 + 5, none⟩ = some (.int .i64 (l[i]'h).2.2.2.2.2)
theorem AtFlyBox.kept {w w' : World} {ao : Option Addr} {l : List RFlyBox} (h : AtFlyBox w ao l) (hb : ∀ g, ao = some ⟨g, 0, none⟩ → g < w.heap.size → w'.heap[g]? = w.heap[g]?) (hs : w.heap.size ≤ w'.heap.size) : AtFlyBox w' ao l := by
  rcases h with h0 | ⟨g, h1, h2, h3⟩
  · exact .inl h0
  · refine .inr ⟨g, h1, by omega, fun i hi => ?_⟩
    have hk := fun o => World.cell?_of_block (a := ⟨g, o, none⟩) (hb g h1 h2)
    have h4 := h3 i hi
    exact ⟨(hk _).trans h4.1, (hk _).trans h4.2.1, (hk _).trans h4.2.2.1, (hk _).trans h4.2.2.2.1, (hk _).trans h4.2.2.2.2.1, (hk _).trans h4.2.2.2.2.2⟩
theorem AtFlyBox.later {w w' : World} {ao : Option Addr} {l : List RFlyBox} (h : AtFlyBox w ao l) (hb : Below w.heap.size w w') : AtFlyBox w' ao l := h.kept (fun g _ hg => hb.block g hg) hb.size
theorem AtFlyBox.elem {w : World} {ao : Option Addr} {l : List RFlyBox} (h : AtFlyBox w ao l) {i : Nat} (hi : i < l.length) : ∃ g, ao = some ⟨g, 0, none⟩ ∧ g < w.heap.size ∧ w.cell? ⟨g, i * 6, none⟩ = some (.int .i64 (l[i]'hi).1) ∧ w.cell? ⟨g, i * 6 + 1, none⟩ = some (.int .i64 (l[i]'hi).2.1) ∧ w.cell? ⟨g, i * 6 + 2, none⟩ = some (.int .i64 (l[i]'hi).2.2.1) ∧ w.cell? ⟨g, i * 6 + 3, none⟩ = some (.int .i64 (l[i]'hi).2.2.2.1) ∧ w.cell? ⟨g, i * 6 + 4, none⟩ = some (.int .i64 (l[i]'hi).2.2.2.2.1) ∧ w.cell? ⟨g, i * 6 + 5, none⟩ = some (.int .i64 (l[i]'hi).2.2.2.2.2) := by
  rcases h with rfl | ⟨g, h1, h2, h3⟩
  · simp at hi
  · exact ⟨g, h1, h2, h3 i hi⟩
theorem atFlyBox_owns {w : World} {B : Nat} {ao : Option Addr} {cap : Nat} {l : List RFlyBox} (h : w.ownsRow B 78 6 (.slice ao l.length cap) l.length (valsFlyBox l)) : AtFlyBox w ao l := by
  by_cases he : l = []
  · exact .inl he
  · right
    have hpos : 0 < l.length := List.length_pos_iff.2 he
    rcases h.2 with ⟨_, h0⟩ | ⟨g, c, cur, hv, hg, hh, hn2, hc, hsz, ht⟩
    · omega
    · cases hv
      refine ⟨g, rfl, (Array.getElem?_eq_some_iff.1 hh).1, fun i hi => ?_⟩
      have e1 : ∀ j, j < 6 → cur[i * 6 + j]? = (valsFlyBox l)[i * 6 + j]? := fun j hj => by
        rw [← ht, List.getElem?_take, if_pos (idx_ne hi hj)]
        simp
      simp only [World.cell?, hh]
      exact ⟨(e1 0 (by decide)).trans (valsFlyBox_at0 l i hi), (e1 1 (by decide)).trans (valsFlyBox_at1 l i hi), (e1 2 (by decide)).trans (valsFlyBox_at2 l i hi), (e1 3 (by decide)).trans (valsFlyBox_at3 l i hi), (e1 4 (by decide)).trans (valsFlyBox_at4 l i hi), (e1 5 (by decide)).trans (valsFlyBox_at5 l i hi)⟩

set_option maxHeartbeats 400000 in
theorem eqFlyBoxR (x : RFlyBox) (w : World) :
    Calls Try.prog 57 #[.agg #[.int .i64 x.1, .int .i64 x.2.1, .int .i64 x.2.2.1, .int .i64 x.2.2.2.1, .int .i64 x.2.2.2.2.1, .int .i64 x.2.2.2.2.2], .agg #[.int .i64 x.1, .int .i64 x.2.1, .int .i64 x.2.2.1, .int .i64 x.2.2.2.1, .int .i64 x.2.2.2.2.1, .int .i64 x.2.2.2.2.2]] w fun e w' => e = .returned (.bool true) ∧ Below w.heap.size w w' := by
  go_enter Try.func57, Try.ntmps57
  go_wp2
  go_ret
  exact ⟨rfl, by repeat (first | exact Below.refl _ _ | refine Below.alloc ?_ (by simp; try omega) _)⟩

set_option maxHeartbeats 1000000 in
theorem eqFlyBoxRS (ao bo : Option Addr) (ca cb : Nat) (l : List RFlyBox) (w : World) (hl : l.length ≤ maxLen) (ha : AtFlyBox w ao l) (hb : AtFlyBox w bo l) :
    Calls Try.prog 27 #[.slice ao l.length ca, .slice bo l.length cb] w fun e w' => e = .returned (.bool true) ∧ Below w.heap.size w w' := by
  unfold maxLen at hl
  go_enter Try.func27, Try.ntmps27
  go_wp2
  go_loopw [5] (fun i wr => ∃ k : Nat, k ≤ l.length ∧ i = .int .i64 k ∧ Below w.heap.size w wr) (fun i _ => l.length - (intOf i).toNat)
  case atStart => exact ⟨0, Nat.zero_le _, rfl, Below.refl _ _⟩
  case round =>
    obtain ⟨k, hk, rfl, hbel⟩ := hrel
    by_cases hlt : k < l.length
    · obtain ⟨g, rfl, hok, c0, c1, c2, c3, c4, c5⟩ := ha.elem hlt
      obtain ⟨g', rfl, hok', c0', c1', c2', c3', c4', c5'⟩ := hb.elem hlt
      have d0 := (hbel.cell (p := ⟨g, k * 6, none⟩) hok).trans c0
      have d1 := (hbel.cell (p := ⟨g, k * 6 + 1, none⟩) hok).trans c1
      have d2 := (hbel.cell (p := ⟨g, k * 6 + 2, none⟩) hok).trans c2
      have d3 := (hbel.cell (p := ⟨g, k * 6 + 3, none⟩) hok).trans c3
      have d4 := (hbel.cell (p := ⟨g, k * 6 + 4, none⟩) hok).trans c4
      have d5 := (hbel.cell (p := ⟨g, k * 6 + 5, none⟩) hok).trans c5
      have d0' := (hbel.cell (p := ⟨g', k * 6, none⟩) hok').trans c0'
      have d1' := (hbel.cell (p := ⟨g', k * 6 + 1, none⟩) hok').trans c1'
      have d2' := (hbel.cell (p := ⟨g', k * 6 + 2, none⟩) hok').trans c2'
      have d3' := (hbel.cell (p := ⟨g', k * 6 + 3, none⟩) hok').trans c3'
      have d4' := (hbel.cell (p := ⟨g', k * 6 + 4, none⟩) hok').trans c4'
      have d5' := (hbel.cell (p := ⟨g', k * 6 + 5, none⟩) hok').trans c5'
      generalize l[k] = x at *
      have hsz := hbel.size
      clear c0 c1 c2 c3 c4 c5 c0' c1' c2' c3' c4' c5' ha hb
      go_wp2
      go_region_with (go_at_call 57; refine (eqFlyBoxR _ _).mono ?_; rintro e w1 ⟨rfl, hb1⟩)
      all_goals
        go_wp2
        go_roundw
        case rel => exact ⟨k + 1, by omega, by go_num, hbel.trans (Below.trans (below_drewN (Below.refl _ _) 1) (hb1.mono hsz))⟩
        case measure => simp [intOf]; omega
    · go_wp2
      go_ret
      exact ⟨rfl, hbel⟩

/-- The marks. -/
def mkFlyBox (q : Nat) : RFlyBox := (((q : Nat) : Int), ((q + 1 : Nat) : Int), ((q + 2 : Nat) : Int), ((q + 3 : Nat) : Int), ((q + 4 : Nat) : Int), ((q + 5 : Nat) : Int))
def marksFlyBox (k n : Nat) : List RFlyBox := (List.range n).map fun i => mkFlyBox (k + 6 * i)
theorem marksFlyBox_len (k n : Nat) : (marksFlyBox k n).length = n := by simp [marksFlyBox]
theorem marksFlyBox_succ (k n : Nat) : marksFlyBox k (n + 1) = marksFlyBox k n ++ [mkFlyBox (k + 6 * n)] := by simp [marksFlyBox, List.range_succ]
theorem markFlyBox_set (k j : Nat) (l : List RFlyBox) (hj : j < l.length) : ((((((valsFlyBox (marksFlyBox k j ++ l.drop j)).set (j * 6) (.int .i64 ((k + 6 * j : Nat) : Int))).set (j * 6 + 1) (.int .i64 ((k + 6 * j + 1 : Nat) : Int))).set (j * 6 + 2) (.int .i64 ((k + 6 * j + 2 : Nat) : Int))).set (j * 6 + 3) (.int .i64 ((k + 6 * j + 3 : Nat) : Int))).set (j * 6 + 4) (.int .i64 ((k + 6 * j + 4 : Nat) : Int))).set (j * 6 + 5) (.int .i64 ((k + 6 * j + 5 : Nat) : Int)) = valsFlyBox (marksFlyBox k (j + 1) ++ l.drop (j + 1)) := by
  have e1 : l.drop j = l[j] :: l.drop (j + 1) := List.drop_eq_getElem_cons hj
  have hl : (valsFlyBox (marksFlyBox k j)).length = j * 6 := by rw [valsFlyBox_len, marksFlyBox_len]
  rw [e1, valsFlyBox_app, marksFlyBox_succ, List.append_assoc, valsFlyBox_app, List.singleton_append, valsFlyBox_cons, valsFlyBox_cons]
  generalize valsFlyBox (marksFlyBox k j) = A at *
  generalize valsFlyBox (l.drop (j + 1)) = B at *
  simp only [mkFlyBox]
  rw [List.set_append_right _ _ (by omega), hl, show j * 6 - j * 6 = 0 by omega]
  rw [List.set_append_right _ _ (by omega), hl, show j * 6 + 1 - j * 6 = 1 by omega]
  rw [List.set_append_right _ _ (by omega), hl, show j * 6 + 2 - j * 6 = 2 by omega]
  rw [List.set_append_right _ _ (by omega), hl, show j * 6 + 3 - j * 6 = 3 by omega]
  rw [List.set_append_right _ _ (by omega), hl, show j * 6 + 4 - j * 6 = 4 by omega]
  rw [List.set_append_right _ _ (by omega), hl, show j * 6 + 5 - j * 6 = 5 by omega]
  rfl

theorem markFlyBox_none (ao : Option Addr) (ca : Nat) (k : Int) (w : World) :
    Calls Try.prog 28 #[.slice ao 0 ca, .int .i64 k] w fun e w' => e = .returned (.int .i64 k) ∧ w' = w := by
  go_enter Try.func28, Try.ntmps28
  go_wp2
  go_loop [1, 5] (fun a i => a = .int .i64 k ∧ i = .int .i64 0) (fun _ _ => 0)
  case atStart => exact ⟨rfl, rfl⟩
  case round =>
    obtain ⟨rfl, rfl⟩ := hrel
    go_wp2
    go_ret
    exact ⟨rfl, rfl⟩

set_option maxRecDepth 100000 in
set_option maxHeartbeats 2000000 in
theorem markFlyBox_g (g cap B k : Nat) (l : List RFlyBox) (w : World) (hn : l.length ≤ 1000000000) (hk : k ≤ 1000) (hB : B ≤ w.heap.size)
    (hown : w.ownsRow B 78 6 (.slice (some ⟨g, 0, none⟩) l.length cap) l.length (valsFlyBox l)) :
    Calls Try.prog 28 #[.slice (some ⟨g, 0, none⟩) l.length cap, .int .i64 k] w fun e w' => e = .returned (.int .i64 ((k + 6 * l.length : Nat) : Int)) ∧ Below B w w' ∧
      w'.ownsRow B 78 6 (.slice (some ⟨g, 0, none⟩) l.length cap) l.length (valsFlyBox (marksFlyBox k l.length)) := by
  go_enter Try.func28, Try.ntmps28
  go_wp2
  go_loopw [1, 5] (fun a i wr => ∃ (j q : Nat), j ≤ l.length ∧ i = .int .i64 j ∧ a = .int .i64 q ∧ Hid (q = k + 6 * j) ∧ Below B w wr ∧
     wr.ownsRow B 78 6 (.slice (some ⟨g, 0, none⟩) l.length cap) l.length (valsFlyBox (marksFlyBox k j ++ l.drop j))) (fun _ i _ => l.length - (intOf i).toNat)
  case atStart => exact ⟨0, k, Nat.zero_le _, rfl, rfl, rfl, Below.refl _ _, by simpa [marksFlyBox] using hown⟩
  case round =>
    obtain ⟨j, q, hj, rfl, rfl, hq, hbel, hO⟩ := hrel
    by_cases hlt : j < l.length
    · have hsz := hbel.size
      have hgB : B ≤ g := own_ge hO g rfl
      have HX : Hid _ := markFlyBox_set k j l hlt
      rw [← hq.out] at HX
      have hqb : q ≤ 1099511627776 - 100 := by have := hq.out; omega
      have HQ : Hid (q + 6 = k + 6 * (j + 1)) := by have := hq.out; show _ = _; omega
      have hlen := hO.1
      generalize valsFlyBox (marksFlyBox k j ++ l.drop j) = X0 at *
      clear hown hq
      obtain ⟨v0, d0⟩ : ∃ v, wr.cell? ⟨g, j * 6, none⟩ = some v := ⟨_, by rw [hO.cellAt (j * 6) (by omega)]; exact List.getElem?_eq_getElem (by (try simp only [List.length_set]); have := Nat.mul_le_mul_right 6 hlt; omega)⟩
      have f0 := hO.frozenAt (j * 6)
      obtain ⟨v1, d1⟩ : ∃ v, wr.cell? ⟨g, j * 6 + 1, none⟩ = some v := ⟨_, by rw [hO.cellAt (j * 6 + 1) (by omega)]; exact List.getElem?_eq_getElem (by (try simp only [List.length_set]); have := Nat.mul_le_mul_right 6 hlt; omega)⟩
      have f1 := hO.frozenAt (j * 6 + 1)
      obtain ⟨v2, d2⟩ : ∃ v, wr.cell? ⟨g, j * 6 + 2, none⟩ = some v := ⟨_, by rw [hO.cellAt (j * 6 + 2) (by omega)]; exact List.getElem?_eq_getElem (by (try simp only [List.length_set]); have := Nat.mul_le_mul_right 6 hlt; omega)⟩
      have f2 := hO.frozenAt (j * 6 + 2)
      obtain ⟨v3, d3⟩ : ∃ v, wr.cell? ⟨g, j * 6 + 3, none⟩ = some v := ⟨_, by rw [hO.cellAt (j * 6 + 3) (by omega)]; exact List.getElem?_eq_getElem (by (try simp only [List.length_set]); have := Nat.mul_le_mul_right 6 hlt; omega)⟩
      have f3 := hO.frozenAt (j * 6 + 3)
      obtain ⟨v4, d4⟩ : ∃ v, wr.cell? ⟨g, j * 6 + 4, none⟩ = some v := ⟨_, by rw [hO.cellAt (j * 6 + 4) (by omega)]; exact List.getElem?_eq_getElem (by (try simp only [List.length_set]); have := Nat.mul_le_mul_right 6 hlt; omega)⟩
      have f4 := hO.frozenAt (j * 6 + 4)
      obtain ⟨v5, d5⟩ : ∃ v, wr.cell? ⟨g, j * 6 + 5, none⟩ = some v := ⟨_, by rw [hO.cellAt (j * 6 + 5) (by omega)]; exact List.getElem?_eq_getElem (by (try simp only [List.length_set]); have := Nat.mul_le_mul_right 6 hlt; omega)⟩
      have f5 := hO.frozenAt (j * 6 + 5)
      have hE := ((((((hO.stored (j * 6) (.int .i64 ((q : Nat) : Int))).1.stored (j * 6 + 1) (.int .i64 ((q + 1 : Nat) : Int))).1.stored (j * 6 + 2) (.int .i64 ((q + 2 : Nat) : Int))).1.stored (j * 6 + 3) (.int .i64 ((q + 3 : Nat) : Int))).1.stored (j * 6 + 4) (.int .i64 ((q + 4 : Nat) : Int))).1.stored (j * 6 + 5) (.int .i64 ((q + 5 : Nat) : Int))).1
      have hEB := ((((((hbel.setCell (p := ⟨g, j * 6, none⟩) hgB (.int .i64 ((q : Nat) : Int))).setCell (p := ⟨g, j * 6 + 1, none⟩) hgB (.int .i64 ((q + 1 : Nat) : Int))).setCell (p := ⟨g, j * 6 + 2, none⟩) hgB (.int .i64 ((q + 2 : Nat) : Int))).setCell (p := ⟨g, j * 6 + 3, none⟩) hgB (.int .i64 ((q + 3 : Nat) : Int))).setCell (p := ⟨g, j * 6 + 4, none⟩) hgB (.int .i64 ((q + 4 : Nat) : Int))).setCell (p := ⟨g, j * 6 + 5, none⟩) hgB (.int .i64 ((q + 5 : Nat) : Int)))
      rw [HX.out] at hE
      rw [show ((q + 1 : Nat) : Int) = (q : Int) + 1 from by omega] at hE hEB
      rw [show ((q + 2 : Nat) : Int) = (q : Int) + 1 + 1 from by omega] at hE hEB
      rw [show ((q + 3 : Nat) : Int) = (q : Int) + 1 + 1 + 1 from by omega] at hE hEB
      rw [show ((q + 4 : Nat) : Int) = (q : Int) + 1 + 1 + 1 + 1 from by omega] at hE hEB
      rw [show ((q + 5 : Nat) : Int) = (q : Int) + 1 + 1 + 1 + 1 + 1 from by omega] at hE hEB
      have HE : Hid _ := hE
      have HEB : Hid _ := hEB
      clear hE hEB hO hbel HX hlen
      go_wp2
      go_roundw
      case rel => exact ⟨j + 1, q + 6, by omega, by go_num, by go_num, HQ, HEB.out, HE.out⟩
      case measure => simp [intOf]; omega
    · have hj2 : j = l.length := by omega
      subst hj2
      have hO2 : wr.ownsRow B 78 6 (.slice (some ⟨g, 0, none⟩) l.length cap) l.length (valsFlyBox (marksFlyBox k l.length)) := by simpa using hO
      have HO2 : Hid _ := hO2
      clear hO hO2
      go_wp2
      go_ret
      exact ⟨by rw [hq.out]; rfl, hbel, HO2.out⟩

theorem markFlyBoxR (ao : Option Addr) (cap B k : Nat) (l : List RFlyBox) (w : World) (hn : l.length ≤ 1000000000) (hk : k ≤ 1000) (hB : B ≤ w.heap.size)
    (hown : w.ownsRow B 78 6 (.slice ao l.length cap) l.length (valsFlyBox l)) :
    Calls Try.prog 28 #[.slice ao l.length cap, .int .i64 k] w fun e w' => e = .returned (.int .i64 ((k + 6 * l.length : Nat) : Int)) ∧ Below B w w' ∧ AtFlyBox w' ao (marksFlyBox k l.length) := by
  cases l with
  | nil =>
    refine (markFlyBox_none ao cap k w).mono fun e w' h => ⟨by rw [h.1]; simp, by rw [h.2]; exact Below.refl _ _, .inl rfl⟩
  | cons x l =>
    obtain ⟨g, cap', hv⟩ := owns_pos (n := l.length) hown
    have hao : ao = some ⟨g, 0, none⟩ := by cases hv; rfl
    subst hao
    refine (markFlyBox_g g cap B k (x :: l) w hn hk hB hown).mono fun e w' h => ⟨h.1, h.2.1, ?_⟩
    have h3 := h.2.2
    have hl := marksFlyBox_len k (x :: l).length
    rw [← hl] at h3
    rw [hl] at h3
    exact atFlyBox_owns (by rw [hl]; exact h3)

theorem heldFlyBox_none (ao : Option Addr) (ca : Nat) (k : Int) (w : World) :
    Calls Try.prog 29 #[.slice ao 0 ca, .int .i64 k] w fun e w' => e = .returned (.int .i64 k) ∧ w' = w := by
  go_enter Try.func29, Try.ntmps29
  go_wp2
  go_loop [1, 5] (fun a i => a = .int .i64 k ∧ i = .int .i64 0) (fun _ _ => 0)
  case atStart => exact ⟨rfl, rfl⟩
  case round =>
    obtain ⟨rfl, rfl⟩ := hrel
    go_wp2
    go_ret
    exact ⟨rfl, rfl⟩

set_option maxRecDepth 100000 in
set_option maxHeartbeats 2000000 in
theorem heldFlyBox_g (g cap k n : Nat) (w : World) (hn : n ≤ 1000000000) (hk : k ≤ 1000)
    (hc : ∀ i, i < n → w.cell? ⟨g, i * 6, none⟩ = some (.int .i64 ((k + 6 * i : Nat) : Int)) ∧ w.cell? ⟨g, i * 6 + 1, none⟩ = some (.int .i64 ((k + 6 * i + 1 : Nat) : Int)) ∧ w.cell? ⟨g, i * 6 + 2, none⟩ = some (.int .i64 ((k + 6 * i + 2 : Nat) : Int)) ∧ w.cell? ⟨g, i * 6 + 3, none⟩ = some (.int .i64 ((k + 6 * i + 3 : Nat) : Int)) ∧ w.cell? ⟨g, i * 6 + 4, none⟩ = some (.int .i64 ((k + 6 * i + 4 : Nat) : Int)) ∧ w.cell? ⟨g, i * 6 + 5, none⟩ = some (.int .i64 ((k + 6 * i + 5 : Nat) : Int))) (hg : g < w.heap.size) :
    Calls Try.prog 29 #[.slice (some ⟨g, 0, none⟩) n cap, .int .i64 k] w fun e w' => e = .returned (.int .i64 ((k + 6 * n : Nat) : Int)) ∧ Below w.heap.size w w' := by
  go_enter Try.func29, Try.ntmps29
  go_wp2
  go_loopw [1, 5] (fun a i wr => ∃ (j q : Nat), j ≤ n ∧ i = .int .i64 j ∧ a = .int .i64 q ∧ Hid (q = k + 6 * j) ∧ Below w.heap.size w wr) (fun _ i _ => n - (intOf i).toNat)
  case atStart => exact ⟨0, k, Nat.zero_le _, rfl, rfl, rfl, Below.refl _ _⟩
  case round =>
    obtain ⟨j, q, hj, rfl, rfl, hq, hbel⟩ := hrel
    by_cases hlt : j < n
    · have hsz := hbel.size
      have hg1 : g < wr.heap.size := by omega
      have hqb : q ≤ 1099511627776 - 100 := by have := hq.out; omega
      have HQ : Hid (q + 6 = k + 6 * (j + 1)) := by have := hq.out; show _ = _; omega
      obtain ⟨e0, e1, e2, e3, e4, e5⟩ := hc j hlt
      rw [← hq.out] at e0 e1 e2 e3 e4 e5
      have c0 := (hbel.cell (p := ⟨g, j * 6, none⟩) hg).trans e0
      have c1 := (hbel.cell (p := ⟨g, j * 6 + 1, none⟩) hg).trans e1
      have c2 := (hbel.cell (p := ⟨g, j * 6 + 2, none⟩) hg).trans e2
      have c3 := (hbel.cell (p := ⟨g, j * 6 + 3, none⟩) hg).trans e3
      have c4 := (hbel.cell (p := ⟨g, j * 6 + 4, none⟩) hg).trans e4
      have c5 := (hbel.cell (p := ⟨g, j * 6 + 5, none⟩) hg).trans e5
      rw [show ((q + 1 : Nat) : Int) = (q : Int) + 1 from by omega] at c1
      rw [show ((q + 2 : Nat) : Int) = (q : Int) + 1 + 1 from by omega] at c2
      rw [show ((q + 3 : Nat) : Int) = (q : Int) + 1 + 1 + 1 from by omega] at c3
      rw [show ((q + 4 : Nat) : Int) = (q : Int) + 1 + 1 + 1 + 1 from by omega] at c4
      rw [show ((q + 5 : Nat) : Int) = (q : Int) + 1 + 1 + 1 + 1 + 1 from by omega] at c5
      clear e0 e1 e2 e3 e4 e5 hq
      go_wp2
      go_roundw
      case rel => exact ⟨j + 1, q + 6, by omega, by go_num, by go_num, HQ, hbel⟩
      case measure => simp [intOf]; omega
    · have hj2 : j = n := by omega
      subst hj2
      go_wp2
      go_ret
      exact ⟨by rw [hq.out]; rfl, hbel⟩

theorem heldFlyBoxR (ao : Option Addr) (cap k n : Nat) (w : World) (hn : n ≤ 1000000000) (hk : k ≤ 1000) (h : AtFlyBox w ao (marksFlyBox k n)) :
    Calls Try.prog 29 #[.slice ao n cap, .int .i64 k] w fun e w' => e = .returned (.int .i64 ((k + 6 * n : Nat) : Int)) ∧ Below w.heap.size w w' := by
  rcases h with h0 | ⟨g, rfl, hg, hc⟩
  · have : n = 0 := by have := congrArg List.length h0; simpa [marksFlyBox_len] using this
    subst this
    refine (heldFlyBox_none ao cap k w).mono fun e w' h => ⟨by rw [h.1]; simp, by rw [h.2]; exact Below.refl _ _⟩
  · refine heldFlyBox_g g cap k n w hn hk (fun i hi => ?_) hg
    have h4 := hc i (by rw [marksFlyBox_len]; exact hi)
    simpa [marksFlyBox, mkFlyBox] using h4

end Go.Proofs.Ytpjacfnjjkoikaa
