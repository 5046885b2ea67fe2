/- DERIVED. A result that is a list of texts: what it owns; the laws' own eqStringS, markStringS, heldStringS over it. -/
import Derived.Test.YtgnjkpmbppmoeaaGreatKGMa
import Derived.Test.YtgnjkpmbppmoeaaGreatKGPw
import Derived.Deep.QuietTactic
import Derived.BigQuiet
import Derived.Deep.RegionWith
import Derived.Test.YtgnjkpmbppmoeaaGreatKGVa
namespace Go.Proofs.YtgnjkpmbppmoeaaGreat
open Go.RowKit
set_option linter.unusedSimpArgs false
set_option linter.unusedVariables false

set_option maxHeartbeats 400000 in
theorem eqTxt_none (ao bo : Option Addr) (ca cb : Nat) (w : World) :
    Calls Tryz.prog 32 #[.slice ao 0 ca, .slice bo 0 cb] w fun e w' => e = .returned (.bool true) ∧ w' = w := by
  go_enter Tryz.func32, Tryz.ntmps32
  go_wp2
  go_loop [5] (fun i => i = .int .i64 0) (fun _ => 0)
  case atStart => exact rfl
  case round =>
    subst hrel
    go_wp2
    go_ret
    exact ⟨rfl, rfl⟩

set_option maxHeartbeats 400000 in
theorem eqTxt (ao bo : Option Addr) (ca cb : Nat) (ws : List ByteArray) (w : World) (hn : ws.length ≤ maxLen) (ha : TxtAt w ao ws) (hb : TxtAt w bo ws) :
    Calls Tryz.prog 32 #[.slice ao ws.length ca, .slice bo ws.length cb] w fun e w' => e = .returned (.bool true) ∧ Below w.heap.size w w' := by
  unfold maxLen at hn
  rcases ha with rfl | ⟨g, rfl, hga, hca⟩
  · exact (eqTxt_none ao bo ca cb w).mono (fun e w' h => ⟨h.1, by rw [h.2]; exact Below.refl _ _⟩)
  · rcases hb with rfl | ⟨g2, rfl, hgb, hcb⟩
    · exact (eqTxt_none _ bo ca cb w).mono (fun e w' h => ⟨h.1, by rw [h.2]; exact Below.refl _ _⟩)
    · go_enter Tryz.func32, Tryz.ntmps32
      go_wp2
      go_loopw [5] (fun i wr => ∃ k : Nat, k ≤ ws.length ∧ i = .int .i64 k ∧ ∃ n, wr = w.drewN n) (fun i _ => ws.length - (intOf i).toNat)
      case atStart => exact ⟨0, Nat.zero_le _, rfl, 0, rfl⟩
      case round =>
        obtain ⟨k, hk, rfl, n, rfl⟩ := hrel
        by_cases hlt : k < ws.length
        · have c1 := hca k hlt
          have c2 := hcb k hlt
          clear hca hcb
          go_wp2
          go_quiet (fail)
          go_wp2
          go_roundw
          case rel => exact ⟨k + 1, by omega, by go_num, _, rfl⟩
          case measure => simp [intOf]; omega
        · go_wp2
          go_ret
          exact ⟨rfl, below_drewN (Below.refl _ _) _⟩

/-- The marks from number k on. -/
def marks (k n : Nat) : List ByteArray := (List.range n).map fun i => mkB (k + i)
theorem marks_len (k n : Nat) : (marks k n).length = n := by simp [marks]
theorem marks_succ (k n : Nat) : marks k (n + 1) = marks k n ++ [mkB (k + n)] := by simp [marks, List.range_succ]
theorem mark_set (k j : Nat) (ws : List ByteArray) (hj : j < ws.length) : (strB (marks k j ++ ws.drop j)).set j (.string (mkB (k + j))) = strB (marks k (j + 1) ++ ws.drop (j + 1)) := by
  have e1 : ws.drop j = ws[j] :: ws.drop (j + 1) := List.drop_eq_getElem_cons hj
  have hl : (strB (marks k j)).length = j := by rw [strB_len, marks_len]
  have e2 : strB (ws[j] :: ws.drop (j + 1)) = .string (ws[j]) :: strB (ws.drop (j + 1)) := rfl
  have e3 : strB [mkB (k + j)] = [.string (mkB (k + j))] := rfl
  rw [e1, strB_app, marks_succ, strB_app, strB_app, List.set_append_right _ _ (by omega), hl, Nat.sub_self, e2, List.set_cons_zero, e3]
  simp

set_option maxHeartbeats 400000 in
theorem markTxt_none (ao : Option Addr) (ca : Nat) (k : Int) (w : World) :
    Calls Tryz.prog 37 #[.slice ao 0 ca, .int .i64 k] w fun e w' => e = .returned (.int .i64 k) ∧ w' = w := by
  go_enter Tryz.func37, Tryz.ntmps37
  go_wp2
  go_loop [1, 5] (fun a i => a = .int .i64 k ∧ i = .int .i64 0) (fun _ _ => 0)
  case atStart => exact ⟨rfl, rfl⟩
  case round =>
    obtain ⟨rfl, rfl⟩ := hrel
    go_wp2
    go_ret
    exact ⟨rfl, rfl⟩

set_option maxHeartbeats 400000 in
theorem markTxt_g (g cap B k : Nat) (ws : List ByteArray) (w : World) (hn : ws.length ≤ 1000000) (hk : k ≤ 1000) (hB : B ≤ w.heap.size)
    (hown : w.ownsRow B 9 1 (.slice (some ⟨g, 0, none⟩) ws.length cap) ws.length (strB ws)) :
    Calls Tryz.prog 37 #[.slice (some ⟨g, 0, none⟩) ws.length cap, .int .i64 k] w fun e w' => e = .returned (.int .i64 (k + ws.length : Nat)) ∧ Below B w w' ∧
      w'.ownsRow B 9 1 (.slice (some ⟨g, 0, none⟩) ws.length cap) ws.length (strB (marks k ws.length)) := by
  go_enter Tryz.func37, Tryz.ntmps37
  go_wp2
  go_loopw [1, 5] (fun a i wr => ∃ j : Nat, j ≤ ws.length ∧ i = .int .i64 j ∧ a = .int .i64 ((k + j : Nat) : Int) ∧ Below B w wr ∧
     wr.ownsRow B 9 1 (.slice (some ⟨g, 0, none⟩) ws.length cap) ws.length (strB (marks k j ++ ws.drop j))) (fun _ i _ => ws.length - (intOf i).toNat)
  case atStart => exact ⟨0, Nat.zero_le _, rfl, rfl, Below.refl _ _, by simpa [marks] using hown⟩
  case round =>
    obtain ⟨j, hj, rfl, rfl, hbel, hO⟩ := hrel
    by_cases hlt : j < ws.length
    · have hsz := hbel.size
      have hgB : B ≤ g := own_ge hO g rfl
      go_wp2_with fail
      refine (markText_int _ _ (by omega) (by omega)).mono ?_
      rintro e w1 ⟨rfl, hb1⟩
      rw [show ((k : Int) + (j : Int)).toNat = k + j from by omega, show (⟨(markL (k + j)).toArray⟩ : ByteArray) = mkB (k + j) from rfl]
      have hO1 := owns_below hO hb1
      have hB1 : Below B w w1 := hbel.trans (hb1.mono (by omega))
      have hcell : w1.cell? ⟨g, j, none⟩ = some (.string (ws[j]'hlt)) := by
        rw [hO1.cellAt j (by omega), strB_app, List.getElem?_append_right (by rw [strB_len, marks_len]; exact Nat.le_refl _), strB_len, marks_len]
        simp [strB, hlt]
      have hfr : w1.frozen? ⟨g, j, none⟩ = false := hO1.frozenAt j
      have hst := (hO1.stored j (.string (mkB (k + j)))).1
      rw [mark_set k j ws hlt] at hst
      have hB2 : Below B w (w1.setCell ⟨g, j, none⟩ (.string (mkB (k + j)))) := hB1.setCell hgB _
      have hmax : ws.length ≤ 1000000 := hn
      clear hb1 hO hO1 hB1 hbel hown
      go_wp2
      go_roundw
      case rel => exact ⟨j + 1, by omega, by go_num, by go_num, hB2, hst⟩
      case measure => simp [intOf]; omega
    · have hj2 : j = ws.length := by omega
      subst hj2
      have hO2 : wr.ownsRow B 9 1 (.slice (some ⟨g, 0, none⟩) ws.length cap) ws.length (strB (marks k ws.length)) := by simpa using hO
      clear hO
      go_wp2
      go_ret
      exact ⟨rfl, hbel, hO2⟩

theorem markTxt (ao : Option Addr) (cap B k : Nat) (ws : List ByteArray) (w : World) (hn : ws.length ≤ 1000000) (hk : k ≤ 1000) (hB : B ≤ w.heap.size)
    (hown : w.ownsRow B 9 1 (.slice ao ws.length cap) ws.length (strB ws)) :
    Calls Tryz.prog 37 #[.slice ao ws.length cap, .int .i64 k] w fun e w' => e = .returned (.int .i64 (k + ws.length : Nat)) ∧ Below B w w' ∧ TxtAt w' ao (marks k ws.length) := by
  cases ws with
  | nil =>
    refine (markTxt_none ao cap k w).mono fun e w' h => ⟨by rw [h.1]; simp, by rw [h.2]; exact Below.refl _ _, .inl rfl⟩
  | cons x l =>
    obtain ⟨g, cap', hv⟩ := owns_pos (n := l.length) hown
    have hao : ao = some ⟨g, 0, none⟩ := by cases hv; rfl
    subst hao
    exact (markTxt_g g cap B k (x :: l) w hn hk hB hown).mono fun e w' h => ⟨h.1, h.2.1, txt_of_owns (by rw [marks_len]) h.2.2⟩

set_option maxHeartbeats 400000 in
theorem heldTxt_none (ao : Option Addr) (ca : Nat) (k : Int) (w : World) :
    Calls Tryz.prog 38 #[.slice ao 0 ca, .int .i64 k] w fun e w' => e = .returned (.int .i64 k) ∧ w' = w := by
  go_enter Tryz.func38, Tryz.ntmps38
  go_wp2
  go_loop [1, 5] (fun a i => a = .int .i64 k ∧ i = .int .i64 0) (fun _ _ => 0)
  case atStart => exact ⟨rfl, rfl⟩
  case round =>
    obtain ⟨rfl, rfl⟩ := hrel
    go_wp2
    go_ret
    exact ⟨rfl, rfl⟩

set_option maxHeartbeats 400000 in
theorem heldTxt_g (g cap k n : Nat) (w : World) (hn : n ≤ 1000000) (hk : k ≤ 1000)
    (hc : ∀ i, i < n → w.cell? ⟨g, i, none⟩ = some (.string (mkB (k + i)))) (hg : g < w.heap.size) :
    Calls Tryz.prog 38 #[.slice (some ⟨g, 0, none⟩) n cap, .int .i64 k] w fun e w' => e = .returned (.int .i64 (k + n : Nat)) ∧ Below w.heap.size w w' := by
  go_enter Tryz.func38, Tryz.ntmps38
  go_wp2
  go_loopw [1, 5] (fun a i wr => ∃ j : Nat, j ≤ n ∧ i = .int .i64 j ∧ a = .int .i64 ((k + j : Nat) : Int) ∧ Below w.heap.size w wr) (fun _ i _ => n - (intOf i).toNat)
  case atStart => exact ⟨0, Nat.zero_le _, rfl, rfl, Below.refl _ _⟩
  case round =>
    obtain ⟨j, hj, rfl, rfl, hbel⟩ := hrel
    by_cases hlt : j < n
    · have hsz := hbel.size
      have c1 : wr.cell? ⟨g, j, none⟩ = some (.string (mkB (k + j))) := (hbel.cell (by exact hg)).trans (hc j hlt)
      have hg1 : g < wr.heap.size := by omega
      go_wp2
      go_region_with (go_at_call 76; refine (markText_int _ _ (by omega) (by omega)).mono ?_; rintro e w1 ⟨rfl, hb1⟩; rw [show ((k : Int) + (j : Int)).toNat = k + j from by omega, show (⟨(markL (k + j)).toArray⟩ : ByteArray) = mkB (k + j) from rfl]; have c3 := (hb1.cell (p := ⟨g, j, none⟩) (by simpa using hg1)).trans (by simpa using c1))
      all_goals
        go_wp2
        go_roundw
        case rel => exact ⟨j + 1, by omega, by go_num, by go_num, hbel.drew.trans (hb1.mono hsz)⟩
        case measure => simp [intOf]; omega
    · have hj2 : j = n := by omega
      subst hj2
      go_wp2
      go_ret
      exact ⟨rfl, hbel⟩

theorem heldTxt (ao : Option Addr) (cap k n : Nat) (w : World) (hn : n ≤ 1000000) (hk : k ≤ 1000) (h : TxtAt w ao (marks k n)) :
    Calls Tryz.prog 38 #[.slice ao n cap, .int .i64 k] w fun e w' => e = .returned (.int .i64 (k + n : Nat)) ∧ Below w.heap.size w w' := by
  rcases h with h0 | ⟨g, rfl, hg, hc⟩
  · have : n = 0 := by have := congrArg List.length h0; simpa [marks_len] using this
    subst this
    refine (heldTxt_none ao cap k w).mono fun e w' h => ⟨by rw [h.1]; simp, by rw [h.2]; exact Below.refl _ _⟩
  · refine heldTxt_g g cap k n w hn hk (fun i hi => ?_) hg
    rw [hc i (by rw [marks_len]; exact hi)]
    simp [marks]

end Go.Proofs.YtgnjkpmbppmoeaaGreat

/- DERIVED. markStringS over a list of texts that a function made: it turns the list's own block alone. -/
namespace Go.Proofs.YtgnjkpmbppmoeaaGreat
open Go.RowKit
set_option linter.unusedSimpArgs false
set_option linter.unusedVariables false

set_option maxHeartbeats 400000 in
theorem markTxt_g2 (g cap B k : Nat) (ws : List ByteArray) (w : World) (hn : ws.length ≤ 1000000) (hk : k ≤ 1000) (hB : B ≤ w.heap.size)
    (hown : w.ownsRow B 9 1 (.slice (some ⟨g, 0, none⟩) ws.length cap) ws.length (strB ws)) :
    Calls Tryz.prog 37 #[.slice (some ⟨g, 0, none⟩) ws.length cap, .int .i64 k] w fun e w' => e = .returned (.int .i64 (k + ws.length : Nat)) ∧ Bel2 B g w w' ∧
      w'.ownsRow B 9 1 (.slice (some ⟨g, 0, none⟩) ws.length cap) ws.length (strB (marks k ws.length)) := by
  go_enter Tryz.func37, Tryz.ntmps37
  go_wp2
  go_loopw [1, 5] (fun a i wr => ∃ j : Nat, j ≤ ws.length ∧ i = .int .i64 j ∧ a = .int .i64 ((k + j : Nat) : Int) ∧ Bel2 B g w wr ∧
     wr.ownsRow B 9 1 (.slice (some ⟨g, 0, none⟩) ws.length cap) ws.length (strB (marks k j ++ ws.drop j))) (fun _ i _ => ws.length - (intOf i).toNat)
  case atStart => exact ⟨0, Nat.zero_le _, rfl, rfl, Bel2.refl _ _ _, by simpa [marks] using hown⟩
  case round =>
    obtain ⟨j, hj, rfl, rfl, hbel, hO⟩ := hrel
    by_cases hlt : j < ws.length
    · have hsz := hbel.size
      have hgB : B ≤ g := own_ge hO g rfl
      go_wp2_with fail
      refine (markText_int _ _ (by omega) (by omega)).mono ?_
      rintro e w1 ⟨rfl, hb1⟩
      rw [show ((k : Int) + (j : Int)).toNat = k + j from by omega, show (⟨(markL (k + j)).toArray⟩ : ByteArray) = mkB (k + j) from rfl]
      have hO1 := owns_below hO hb1
      have hB1 : Bel2 B g w w1 := hbel.then hb1 hB
      have hcell : w1.cell? ⟨g, j, none⟩ = some (.string (ws[j]'hlt)) := by
        rw [hO1.cellAt j (by omega), strB_app, List.getElem?_append_right (by rw [strB_len, marks_len]; exact Nat.le_refl _), strB_len, marks_len]
        simp [strB, hlt]
      have hfr : w1.frozen? ⟨g, j, none⟩ = false := hO1.frozenAt j
      have hst := (hO1.stored j (.string (mkB (k + j)))).1
      rw [mark_set k j ws hlt] at hst
      have hB2 : Bel2 B g w (w1.setCell ⟨g, j, none⟩ (.string (mkB (k + j)))) := hB1.setCell hgB _
      have hmax : ws.length ≤ 1000000 := hn
      clear hb1 hO hO1 hB1 hbel hown
      go_wp2
      go_roundw
      case rel => exact ⟨j + 1, by omega, by go_num, by go_num, hB2, hst⟩
      case measure => simp [intOf]; omega
    · have hj2 : j = ws.length := by omega
      subst hj2
      have hO2 : wr.ownsRow B 9 1 (.slice (some ⟨g, 0, none⟩) ws.length cap) ws.length (strB (marks k ws.length)) := by simpa using hO
      clear hO
      go_wp2
      go_ret
      exact ⟨rfl, hbel, hO2⟩

theorem markTxt2 (ao : Option Addr) (cap B k : Nat) (ws : List ByteArray) (w : World) (hn : ws.length ≤ 1000000) (hk : k ≤ 1000) (hB : B ≤ w.heap.size)
    (hown : w.ownsRow B 9 1 (.slice ao ws.length cap) ws.length (strB ws)) :
    Calls Tryz.prog 37 #[.slice ao ws.length cap, .int .i64 k] w fun e w' => e = .returned (.int .i64 (k + ws.length : Nat)) ∧ (Below B w w' ∧ Others ao w w') ∧ TxtAt w' ao (marks k ws.length) := by
  cases ws with
  | nil =>
    refine (markTxt_none ao cap k w).mono fun e w' h => ⟨by rw [h.1]; simp, by rw [h.2]; exact ⟨Below.refl _ _, fun _ _ _ => rfl⟩, .inl rfl⟩
  | cons x l =>
    obtain ⟨g, cap', hv⟩ := owns_pos (n := l.length) hown
    have hao : ao = some ⟨g, 0, none⟩ := by cases hv; rfl
    subst hao
    exact (markTxt_g2 g cap B k (x :: l) w hn hk hB hown).mono fun e w' h => ⟨h.1, ⟨h.2.1.bel, h.2.1.others⟩, txt_of_owns (by rw [marks_len]) h.2.2⟩

end Go.Proofs.YtgnjkpmbppmoeaaGreat

/- DERIVED. By gs.py: a result that is a PlanFlight: the laws' own eq, mark, held over it. -/
namespace Go.Proofs.YtgnjkpmbppmoeaaGreat
open Go.RowKit
set_option linter.unusedSimpArgs false
set_option linter.unusedVariables false

set_option maxHeartbeats 1000000 in
theorem eqPlanFlightF (f0 : ByteArray) (f1 : ByteArray) (f2 : Int) (f3 : Int) (f4 : Int) (f5 : Int) (f6 : Int) (ao bo : Option Addr) (ca cb : Nat) (l : List ByteArray) (w : World) (hl : l.length ≤ maxLen) (ha : TxtAt w ao l) (hb : TxtAt w bo l) :
    Calls Tryz.prog 10 #[.agg #[.string f0, .string f1, .int .i64 f2, .int .i64 f3, .int .i64 f4, .int .i64 f5, .int .i64 f6, .slice ao l.length ca], .agg #[.string f0, .string f1, .int .i64 f2, .int .i64 f3, .int .i64 f4, .int .i64 f5, .int .i64 f6, .slice bo l.length cb]] w fun e w' => e = .returned (.bool true) ∧ Below w.heap.size w w' := by
  have b0 : Below w.heap.size w ((w.alloc (.cells #[.string f0, .string f1, .int .i64 f2, .int .i64 f3, .int .i64 f4, .int .i64 f5, .int .i64 f6, .slice ao l.length ca] 34)).alloc (.cells #[.string f0, .string f1, .int .i64 f2, .int .i64 f3, .int .i64 f4, .int .i64 f5, .int .i64 f6, .slice bo l.length cb] 34)) := ((Below.refl w.heap.size w).alloc (Nat.le_refl _) _).alloc (by simp) _
  go_enter Tryz.func10, Tryz.ntmps10
  go_wp2_with fail
  refine (eqPlanKind_any (f1, f2, f3) _).mono ?_
  rintro e w1 ⟨rfl, g1⟩
  have b1 := b0.trans (g1.mono b0.size)
  obtain ⟨hc1, hf1⟩ := bcell g1
  have z1 := g1.size
  try simp at z1 hc1 hf1
  have y10 : w.heap.size < w1.heap.size := by omega
  have y11 : w.heap.size + 1 < w1.heap.size := by omega
  go_wp2_with fail
  refine (eqTxt ao bo ca cb l _ hl (ha.later b1) (hb.later b1)).mono ?_
  rintro e w2 ⟨rfl, g2⟩
  have b2 := b1.trans (g2.mono b1.size)
  obtain ⟨hc2, hf2⟩ := bcell g2
  have z2 := g2.size
  try simp at z2 hc2 hf2
  have y20 : w.heap.size < w2.heap.size := by omega
  have y21 : w.heap.size + 1 < w2.heap.size := by omega
  go_wp2
  go_ret
  exact ⟨rfl, b2⟩

set_option maxHeartbeats 1000000 in
theorem markPlanFlightF (f0 : ByteArray) (f1 : ByteArray) (f2 : Int) (f3 : Int) (f4 : Int) (f5 : Int) (f6 : Int) (ao : Option Addr) (cap B k : Nat) (l : List ByteArray) (w : World) (hn : l.length ≤ 1000000) (hk : k ≤ 1000) (hB : B ≤ w.heap.size)
    (hown : w.ownsRow B 9 1 (.slice ao l.length cap) l.length (strB l)) :
    Calls Tryz.prog 13 #[.agg #[.string f0, .string f1, .int .i64 f2, .int .i64 f3, .int .i64 f4, .int .i64 f5, .int .i64 f6, .slice ao l.length cap], .int .i64 k] w fun e w' => e = .returned (.int .i64 ((k + l.length : Nat) : Int)) ∧ (Below B w w' ∧ Others ao w w') ∧ TxtAt w' ao (marks k l.length) := by
  have HM := markTxt2 ao cap B k l (w.alloc (.cells #[.string f0, .string f1, .int .i64 f2, .int .i64 f3, .int .i64 f4, .int .i64 f5, .int .i64 f6, .slice ao l.length cap] 34)) hn hk (by simp; omega) (hown.alloc _)
  have HB : Below B w (w.alloc (.cells #[.string f0, .string f1, .int .i64 f2, .int .i64 f3, .int .i64 f4, .int .i64 f5, .int .i64 f6, .slice ao l.length cap] 34)) := (Below.refl _ _).alloc hB _
  go_enter Tryz.func13, Tryz.ntmps13
  go_wp2_with fail
  refine HM.mono ?_
  rintro e w1 ⟨rfl, hb1, hA⟩
  go_wp2
  go_ret
  exact ⟨rfl, ⟨HB.trans hb1.1, fun b h1 h2 => (hb1.2 b (by simp; omega) h2).trans (Below.heap_alloc w _ b h1)⟩, hA⟩

set_option maxHeartbeats 1000000 in
theorem heldPlanFlightF (f0 : ByteArray) (f1 : ByteArray) (f2 : Int) (f3 : Int) (f4 : Int) (f5 : Int) (f6 : Int) (ao : Option Addr) (cap k n : Nat) (w : World) (hn : n ≤ 1000000) (hk : k ≤ 1000) (h : TxtAt w ao (marks k n)) :
    Calls Tryz.prog 14 #[.agg #[.string f0, .string f1, .int .i64 f2, .int .i64 f3, .int .i64 f4, .int .i64 f5, .int .i64 f6, .slice ao n cap], .int .i64 k] w fun e w' => e = .returned (.int .i64 ((k + n : Nat) : Int)) ∧ Below w.heap.size w w' := by
  have HB : Below w.heap.size w (w.alloc (.cells #[.string f0, .string f1, .int .i64 f2, .int .i64 f3, .int .i64 f4, .int .i64 f5, .int .i64 f6, .slice ao n cap] 34)) := (Below.refl _ _).alloc (Nat.le_refl _) _
  have HM := heldTxt ao cap k n (w.alloc (.cells #[.string f0, .string f1, .int .i64 f2, .int .i64 f3, .int .i64 f4, .int .i64 f5, .int .i64 f6, .slice ao n cap] 34)) hn hk (h.later HB)
  have hd : decide (((k + n : Nat) : Int) < 0) = false := by simp; omega
  have hd2 : ¬ (((k + n : Nat) : Int) < 0) := by omega
  generalize ((k + n : Nat) : Int) = m at *
  go_enter Tryz.func14, Tryz.ntmps14
  go_wp2_with fail
  refine HM.mono ?_
  rintro e w1 ⟨rfl, hb1⟩
  have HB1 := HB.trans (hb1.mono HB.size)
  go_wp2
  go_ret
  exact ⟨rfl, HB1⟩

end Go.Proofs.YtgnjkpmbppmoeaaGreat
