/- DERIVED. By gr.py: a result that is a list of FlySpan: what it owns; the laws' own eq, mark, held over it. -/
import Derived.Test.YtpjacfnjjkoikaaKOr0
import Derived.Test.YtpjacfnjjkoikaaRows
import Derived.WalkKit
import Derived.WalkSpells
import Derived.WalkLawsBesides
import Derived.Deep.QuietTactic
import Derived.BigQuiet
import Derived.Deep.RegionWith
namespace Go.Proofs.Ytpjacfnjjkoikaa
open Go.RowKit
set_option linter.unusedSimpArgs false
set_option linter.unusedVariables false

abbrev RFlySpan := Int × Int
def valsFlySpan (l : List RFlySpan) : List Value := l.flatMap fun x => [.int .i64 x.1, .int .i64 x.2]
theorem valsFlySpan_len (l : List RFlySpan) : (valsFlySpan l).length = l.length * 2 := by
  induction l with
  | nil => rfl
  | cons x l ih => simp only [valsFlySpan, List.flatMap_cons, List.length_append, List.length_cons, List.length_nil] at ih ⊢; omega
theorem valsFlySpan_cons (x : RFlySpan) (l : List RFlySpan) : valsFlySpan (x :: l) = (.int .i64 x.1) :: (.int .i64 x.2) :: valsFlySpan l := rfl
theorem valsFlySpan_app (a b : List RFlySpan) : valsFlySpan (a ++ b) = valsFlySpan a ++ valsFlySpan b := by simp [valsFlySpan]
theorem valsFlySpan_snoc (l : List RFlySpan) (x : RFlySpan) : valsFlySpan (l ++ [x]) = valsFlySpan l ++ [.int .i64 x.1, .int .i64 x.2] := by rw [valsFlySpan_app]; rfl
theorem valsFlySpan_at0 : ∀ (l : List RFlySpan) (i : Nat) (h : i < l.length), (valsFlySpan l)[i * 2]? = some (.int .i64 (l[i]'h).1)
  | x :: l, 0, _ => rfl
  | x :: l, i + 1, h => by
    rw [valsFlySpan_cons, show (i + 1) * 2 = i * 2 + 1 + 1 by omega]
    simpa using valsFlySpan_at0 l i (by simpa using h)
theorem valsFlySpan_at1 : ∀ (l : List RFlySpan) (i : Nat) (h : i < l.length), (valsFlySpan l)[i * 2 + 1]? = some (.int .i64 (l[i]'h).2)
  | x :: l, 0, _ => rfl
  | x :: l, i + 1, h => by
    rw [valsFlySpan_cons, show (i + 1) * 2 + 1 = i * 2 + 1 + 1 + 1 by omega]
    simpa using valsFlySpan_at1 l i (by simpa using h)

/-- Where a slice's elements are l, from cell 0 of its block on. -/
def AtFlySpan (w : World) (ao : Option Addr) (l : List RFlySpan) : Prop :=
  l = [] ∨ ∃ g, ao = some ⟨g, 0, none⟩ ∧ g < w.heap.size ∧ ∀ i (h : i < l.length), w.cell? ⟨g, i * 2, none⟩ = some (.int .i64 (l[i]'h).1) ∧ w.cell? ⟨g, i * 2 + 1, none⟩ = some (.int .i64 (l[i]'h).2)
theorem AtFlySpan.kept {w w' : World} {ao : Option Addr} {l : List RFlySpan} (h : AtFlySpan w ao l) (hb : ∀ g, ao = some ⟨g, 0, none⟩ → g < w.heap.size → w'.heap[g]? = w.heap[g]?) (hs : w.heap.size ≤ w'.heap.size) : AtFlySpan w' ao l := by
  rcases h with h0 | ⟨g, h1, h2, h3⟩
  · exact .inl h0
  · refine .inr ⟨g, h1, by omega, fun i hi => ?_⟩
    have hk := fun o => World.cell?_of_block (a := ⟨g, o, none⟩) (hb g h1 h2)
    have h4 := h3 i hi
    exact ⟨(hk _).trans h4.1, (hk _).trans h4.2⟩
theorem AtFlySpan.later {w w' : World} {ao : Option Addr} {l : List RFlySpan} (h : AtFlySpan w ao l) (hb : Below w.heap.size w w') : AtFlySpan w' ao l := h.kept (fun g _ hg => hb.block g hg) hb.size
theorem AtFlySpan.elem {w : World} {ao : Option Addr} {l : List RFlySpan} (h : AtFlySpan w ao l) {i : Nat} (hi : i < l.length) : ∃ g, ao = some ⟨g, 0, none⟩ ∧ g < w.heap.size ∧ w.cell? ⟨g, i * 2, none⟩ = some (.int .i64 (l[i]'hi).1) ∧ w.cell? ⟨g, i * 2 + 1, none⟩ = some (.int .i64 (l[i]'hi).2) := by
  rcases h with rfl | ⟨g, h1, h2, h3⟩
  · simp at hi
  · exact ⟨g, h1, h2, h3 i hi⟩
theorem atFlySpan_owns {w : World} {B : Nat} {ao : Option Addr} {cap : Nat} {l : List RFlySpan} (h : w.ownsRow B 65 2 (.slice ao l.length cap) l.length (valsFlySpan l)) : AtFlySpan w ao l := by
  by_cases he : l = []
  · exact .inl he
  · right
    have hpos : 0 < l.length := List.length_pos_iff.2 he
    rcases h.2 with ⟨_, h0⟩ | ⟨g, c, cur, hv, hg, hh, hn2, hc, hsz, ht⟩
    · omega
    · cases hv
      refine ⟨g, rfl, (Array.getElem?_eq_some_iff.1 hh).1, fun i hi => ?_⟩
      have e1 : ∀ j, j < 2 → cur[i * 2 + j]? = (valsFlySpan l)[i * 2 + j]? := fun j hj => by
        rw [← ht, List.getElem?_take, if_pos (idx_ne hi hj)]
        simp
      simp only [World.cell?, hh]
      exact ⟨(e1 0 (by decide)).trans (valsFlySpan_at0 l i hi), (e1 1 (by decide)).trans (valsFlySpan_at1 l i hi)⟩

set_option maxHeartbeats 400000 in
theorem eqFlySpanR (x : RFlySpan) (w : World) :
    Calls Try.prog 50 #[.agg #[.int .i64 x.1, .int .i64 x.2], .agg #[.int .i64 x.1, .int .i64 x.2]] w fun e w' => e = .returned (.bool true) ∧ Below w.heap.size w w' := by
  go_enter Try.func50, Try.ntmps50
  go_wp2
  go_ret
  exact ⟨rfl, by repeat (first | exact Below.refl _ _ | refine Below.alloc ?_ (by simp; try omega) _)⟩

set_option maxHeartbeats 1000000 in
theorem eqFlySpanRS (ao bo : Option Addr) (ca cb : Nat) (l : List RFlySpan) (w : World) (hl : l.length ≤ maxLen) (ha : AtFlySpan w ao l) (hb : AtFlySpan w bo l) :
    Calls Try.prog 13 #[.slice ao l.length ca, .slice bo l.length cb] w fun e w' => e = .returned (.bool true) ∧ Below w.heap.size w w' := by
  unfold maxLen at hl
  go_enter Try.func13, Try.ntmps13
  go_wp2
  go_loopw [5] (fun i wr => ∃ k : Nat, k ≤ l.length ∧ i = .int .i64 k ∧ Below w.heap.size w wr) (fun i _ => l.length - (intOf i).toNat)
  case atStart => exact ⟨0, Nat.zero_le _, rfl, Below.refl _ _⟩
  case round =>
    obtain ⟨k, hk, rfl, hbel⟩ := hrel
    by_cases hlt : k < l.length
    · obtain ⟨g, rfl, hok, c0, c1⟩ := ha.elem hlt
      obtain ⟨g', rfl, hok', c0', c1'⟩ := hb.elem hlt
      have d0 := (hbel.cell (p := ⟨g, k * 2, none⟩) hok).trans c0
      have d1 := (hbel.cell (p := ⟨g, k * 2 + 1, none⟩) hok).trans c1
      have d0' := (hbel.cell (p := ⟨g', k * 2, none⟩) hok').trans c0'
      have d1' := (hbel.cell (p := ⟨g', k * 2 + 1, none⟩) hok').trans c1'
      generalize l[k] = x at *
      have hsz := hbel.size
      clear c0 c1 c0' c1' ha hb
      go_wp2
      go_region_with (go_at_call 50; refine (eqFlySpanR _ _).mono ?_; rintro e w1 ⟨rfl, hb1⟩)
      all_goals
        go_wp2
        go_roundw
        case rel => exact ⟨k + 1, by omega, by go_num, hbel.trans (Below.trans (below_drewN (Below.refl _ _) 1) (hb1.mono hsz))⟩
        case measure => simp [intOf]; omega
    · go_wp2
      go_ret
      exact ⟨rfl, hbel⟩

/-- The marks. -/
def mkFlySpan (q : Nat) : RFlySpan := (((q : Nat) : Int), ((q + 1 : Nat) : Int))
def marksFlySpan (k n : Nat) : List RFlySpan := (List.range n).map fun i => mkFlySpan (k + 2 * i)
theorem marksFlySpan_len (k n : Nat) : (marksFlySpan k n).length = n := by simp [marksFlySpan]
theorem marksFlySpan_succ (k n : Nat) : marksFlySpan k (n + 1) = marksFlySpan k n ++ [mkFlySpan (k + 2 * n)] := by simp [marksFlySpan, List.range_succ]
theorem markFlySpan_set (k j : Nat) (l : List RFlySpan) (hj : j < l.length) : ((valsFlySpan (marksFlySpan k j ++ l.drop j)).set (j * 2) (.int .i64 ((k + 2 * j : Nat) : Int))).set (j * 2 + 1) (.int .i64 ((k + 2 * j + 1 : Nat) : Int)) = valsFlySpan (marksFlySpan k (j + 1) ++ l.drop (j + 1)) := by
  have e1 : l.drop j = l[j] :: l.drop (j + 1) := List.drop_eq_getElem_cons hj
  have hl : (valsFlySpan (marksFlySpan k j)).length = j * 2 := by rw [valsFlySpan_len, marksFlySpan_len]
  rw [e1, valsFlySpan_app, marksFlySpan_succ, List.append_assoc, valsFlySpan_app, List.singleton_append, valsFlySpan_cons, valsFlySpan_cons]
  generalize valsFlySpan (marksFlySpan k j) = A at *
  generalize valsFlySpan (l.drop (j + 1)) = B at *
  simp only [mkFlySpan]
  rw [List.set_append_right _ _ (by omega), hl, show j * 2 - j * 2 = 0 by omega]
  rw [List.set_append_right _ _ (by omega), hl, show j * 2 + 1 - j * 2 = 1 by omega]
  rfl

theorem markFlySpan_none (ao : Option Addr) (ca : Nat) (k : Int) (w : World) :
    Calls Try.prog 16 #[.slice ao 0 ca, .int .i64 k] w fun e w' => e = .returned (.int .i64 k) ∧ w' = w := by
  go_enter Try.func16, Try.ntmps16
  go_wp2
  go_loop [1, 5] (fun a i => a = .int .i64 k ∧ i = .int .i64 0) (fun _ _ => 0)
  case atStart => exact ⟨rfl, rfl⟩
  case round =>
    obtain ⟨rfl, rfl⟩ := hrel
    go_wp2
    go_ret
    exact ⟨rfl, rfl⟩

set_option maxRecDepth 100000 in
set_option maxHeartbeats 2000000 in
theorem markFlySpan_g (g cap B k : Nat) (l : List RFlySpan) (w : World) (hn : l.length ≤ 1000000000) (hk : k ≤ 1000) (hB : B ≤ w.heap.size)
    (hown : w.ownsRow B 65 2 (.slice (some ⟨g, 0, none⟩) l.length cap) l.length (valsFlySpan l)) :
    Calls Try.prog 16 #[.slice (some ⟨g, 0, none⟩) l.length cap, .int .i64 k] w fun e w' => e = .returned (.int .i64 ((k + 2 * l.length : Nat) : Int)) ∧ Below B w w' ∧
      w'.ownsRow B 65 2 (.slice (some ⟨g, 0, none⟩) l.length cap) l.length (valsFlySpan (marksFlySpan k l.length)) := by
  go_enter Try.func16, Try.ntmps16
  go_wp2
  go_loopw [1, 5] (fun a i wr => ∃ (j q : Nat), j ≤ l.length ∧ i = .int .i64 j ∧ a = .int .i64 q ∧ Hid (q = k + 2 * j) ∧ Below B w wr ∧
     wr.ownsRow B 65 2 (.slice (some ⟨g, 0, none⟩) l.length cap) l.length (valsFlySpan (marksFlySpan k j ++ l.drop j))) (fun _ i _ => l.length - (intOf i).toNat)
  case atStart => exact ⟨0, k, Nat.zero_le _, rfl, rfl, rfl, Below.refl _ _, by simpa [marksFlySpan] using hown⟩
  case round =>
    obtain ⟨j, q, hj, rfl, rfl, hq, hbel, hO⟩ := hrel
    by_cases hlt : j < l.length
    · have hsz := hbel.size
      have hgB : B ≤ g := own_ge hO g rfl
      have HX : Hid _ := markFlySpan_set k j l hlt
      rw [← hq.out] at HX
      have hqb : q ≤ 1099511627776 - 100 := by have := hq.out; omega
      have HQ : Hid (q + 2 = k + 2 * (j + 1)) := by have := hq.out; show _ = _; omega
      have hlen := hO.1
      generalize valsFlySpan (marksFlySpan k j ++ l.drop j) = X0 at *
      clear hown hq
      obtain ⟨v0, d0⟩ : ∃ v, wr.cell? ⟨g, j * 2, none⟩ = some v := ⟨_, by rw [hO.cellAt (j * 2) (by omega)]; exact List.getElem?_eq_getElem (by (try simp only [List.length_set]); have := Nat.mul_le_mul_right 2 hlt; omega)⟩
      have f0 := hO.frozenAt (j * 2)
      obtain ⟨v1, d1⟩ : ∃ v, wr.cell? ⟨g, j * 2 + 1, none⟩ = some v := ⟨_, by rw [hO.cellAt (j * 2 + 1) (by omega)]; exact List.getElem?_eq_getElem (by (try simp only [List.length_set]); have := Nat.mul_le_mul_right 2 hlt; omega)⟩
      have f1 := hO.frozenAt (j * 2 + 1)
      have hE := ((hO.stored (j * 2) (.int .i64 ((q : Nat) : Int))).1.stored (j * 2 + 1) (.int .i64 ((q + 1 : Nat) : Int))).1
      have hEB := ((hbel.setCell (p := ⟨g, j * 2, none⟩) hgB (.int .i64 ((q : Nat) : Int))).setCell (p := ⟨g, j * 2 + 1, none⟩) hgB (.int .i64 ((q + 1 : Nat) : Int)))
      rw [HX.out] at hE
      rw [show ((q + 1 : Nat) : Int) = (q : Int) + 1 from by omega] at hE hEB
      have HE : Hid _ := hE
      have HEB : Hid _ := hEB
      clear hE hEB hO hbel HX hlen
      go_wp2
      go_roundw
      case rel => exact ⟨j + 1, q + 2, by omega, by go_num, by go_num, HQ, HEB.out, HE.out⟩
      case measure => simp [intOf]; omega
    · have hj2 : j = l.length := by omega
      subst hj2
      have hO2 : wr.ownsRow B 65 2 (.slice (some ⟨g, 0, none⟩) l.length cap) l.length (valsFlySpan (marksFlySpan k l.length)) := by simpa using hO
      have HO2 : Hid _ := hO2
      clear hO hO2
      go_wp2
      go_ret
      exact ⟨by rw [hq.out]; rfl, hbel, HO2.out⟩

theorem markFlySpanR (ao : Option Addr) (cap B k : Nat) (l : List RFlySpan) (w : World) (hn : l.length ≤ 1000000000) (hk : k ≤ 1000) (hB : B ≤ w.heap.size)
    (hown : w.ownsRow B 65 2 (.slice ao l.length cap) l.length (valsFlySpan l)) :
    Calls Try.prog 16 #[.slice ao l.length cap, .int .i64 k] w fun e w' => e = .returned (.int .i64 ((k + 2 * l.length : Nat) : Int)) ∧ Below B w w' ∧ AtFlySpan w' ao (marksFlySpan k l.length) := by
  cases l with
  | nil =>
    refine (markFlySpan_none ao cap k w).mono fun e w' h => ⟨by rw [h.1]; simp, by rw [h.2]; exact Below.refl _ _, .inl rfl⟩
  | cons x l =>
    obtain ⟨g, cap', hv⟩ := owns_pos (n := l.length) hown
    have hao : ao = some ⟨g, 0, none⟩ := by cases hv; rfl
    subst hao
    refine (markFlySpan_g g cap B k (x :: l) w hn hk hB hown).mono fun e w' h => ⟨h.1, h.2.1, ?_⟩
    have h3 := h.2.2
    have hl := marksFlySpan_len k (x :: l).length
    rw [← hl] at h3
    rw [hl] at h3
    exact atFlySpan_owns (by rw [hl]; exact h3)

theorem heldFlySpan_none (ao : Option Addr) (ca : Nat) (k : Int) (w : World) :
    Calls Try.prog 17 #[.slice ao 0 ca, .int .i64 k] w fun e w' => e = .returned (.int .i64 k) ∧ w' = w := by
  go_enter Try.func17, Try.ntmps17
  go_wp2
  go_loop [1, 5] (fun a i => a = .int .i64 k ∧ i = .int .i64 0) (fun _ _ => 0)
  case atStart => exact ⟨rfl, rfl⟩
  case round =>
    obtain ⟨rfl, rfl⟩ := hrel
    go_wp2
    go_ret
    exact ⟨rfl, rfl⟩

set_option maxRecDepth 100000 in
set_option maxHeartbeats 2000000 in
theorem heldFlySpan_g (g cap k n : Nat) (w : World) (hn : n ≤ 1000000000) (hk : k ≤ 1000)
    (hc : ∀ i, i < n → w.cell? ⟨g, i * 2, none⟩ = some (.int .i64 ((k + 2 * i : Nat) : Int)) ∧ w.cell? ⟨g, i * 2 + 1, none⟩ = some (.int .i64 ((k + 2 * i + 1 : Nat) : Int))) (hg : g < w.heap.size) :
    Calls Try.prog 17 #[.slice (some ⟨g, 0, none⟩) n cap, .int .i64 k] w fun e w' => e = .returned (.int .i64 ((k + 2 * n : Nat) : Int)) ∧ Below w.heap.size w w' := by
  go_enter Try.func17, Try.ntmps17
  go_wp2
  go_loopw [1, 5] (fun a i wr => ∃ (j q : Nat), j ≤ n ∧ i = .int .i64 j ∧ a = .int .i64 q ∧ Hid (q = k + 2 * j) ∧ Below w.heap.size w wr) (fun _ i _ => n - (intOf i).toNat)
  case atStart => exact ⟨0, k, Nat.zero_le _, rfl, rfl, rfl, Below.refl _ _⟩
  case round =>
    obtain ⟨j, q, hj, rfl, rfl, hq, hbel⟩ := hrel
    by_cases hlt : j < n
    · have hsz := hbel.size
      have hg1 : g < wr.heap.size := by omega
      have hqb : q ≤ 1099511627776 - 100 := by have := hq.out; omega
      have HQ : Hid (q + 2 = k + 2 * (j + 1)) := by have := hq.out; show _ = _; omega
      obtain ⟨e0, e1⟩ := hc j hlt
      rw [← hq.out] at e0 e1
      have c0 := (hbel.cell (p := ⟨g, j * 2, none⟩) hg).trans e0
      have c1 := (hbel.cell (p := ⟨g, j * 2 + 1, none⟩) hg).trans e1
      rw [show ((q + 1 : Nat) : Int) = (q : Int) + 1 from by omega] at c1
      clear e0 e1 hq
      go_wp2
      go_roundw
      case rel => exact ⟨j + 1, q + 2, by omega, by go_num, by go_num, HQ, hbel⟩
      case measure => simp [intOf]; omega
    · have hj2 : j = n := by omega
      subst hj2
      go_wp2
      go_ret
      exact ⟨by rw [hq.out]; rfl, hbel⟩

theorem heldFlySpanR (ao : Option Addr) (cap k n : Nat) (w : World) (hn : n ≤ 1000000000) (hk : k ≤ 1000) (h : AtFlySpan w ao (marksFlySpan k n)) :
    Calls Try.prog 17 #[.slice ao n cap, .int .i64 k] w fun e w' => e = .returned (.int .i64 ((k + 2 * n : Nat) : Int)) ∧ Below w.heap.size w w' := by
  rcases h with h0 | ⟨g, rfl, hg, hc⟩
  · have : n = 0 := by have := congrArg List.length h0; simpa [marksFlySpan_len] using this
    subst this
    refine (heldFlySpan_none ao cap k w).mono fun e w' h => ⟨by rw [h.1]; simp, by rw [h.2]; exact Below.refl _ _⟩
  · refine heldFlySpan_g g cap k n w hn hk (fun i hi => ?_) hg
    have h4 := hc i (by rw [marksFlySpan_len]; exact hi)
    simpa [marksFlySpan, mkFlySpan] using h4

end Go.Proofs.Ytpjacfnjjkoikaa
