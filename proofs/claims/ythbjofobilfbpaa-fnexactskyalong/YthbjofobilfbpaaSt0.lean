/- DERIVED. A result that is a list of texts: what it owns; the laws' own eqStringS, markStringS, heldStringS over it. -/
import Derived.Test.YthbjofobilfbpaaMk1
import Derived.Deep.QuietTactic
import Derived.BigQuiet
import Derived.Deep.RegionWith
namespace Go.Proofs.Ythbjofobilfbpaa
open Go.RowKit
set_option linter.unusedSimpArgs false
set_option linter.unusedVariables false

theorem Try.infoStr : (Try.prog.info? 9).map (fun i => (i.zero, i.size, i.bytes)) = some (some (.string ByteArray.empty), 1, 16) := by kernel_rfl

theorem owns_pos {w : World} {base : Nat} {e : TypeId} {size : Nat} {v : Value} {n : Nat} {xs : List Value} (h : w.ownsRow base e size v (n + 1) xs) : ∃ g cap, v = .slice (some ⟨g, 0, none⟩) (n + 1) cap := by
  rcases h.2 with ⟨_, h0⟩ | ⟨g, cap, cur, hv, _⟩
  · omega
  · exact ⟨g, cap, hv⟩
theorem own_ge {w : World} {base : Nat} {e : TypeId} {size : Nat} {v : Value} {n : Nat} {xs : List Value} (h : w.ownsRow base e size v n xs) : ∀ k, v.ownBlock = some k → base ≤ k := fun k hk => (h.lt k hk).1
theorem owns_kept {w w' : World} {base : Nat} {e : TypeId} {size : Nat} {v : Value} {n : Nat} {xs : List Value} (h : w.ownsRow base e size v n xs) (hb : ∀ g, base ≤ g → g < w.heap.size → w'.heap[g]? = w.heap[g]?) : w'.ownsRow base e size v n xs := by
  refine ⟨h.1, ?_⟩
  rcases h.2 with hn | ⟨g, cap, cur, hv, hg, hh, r⟩
  · exact .inl hn
  · exact .inr ⟨g, cap, cur, hv, hg, by rw [hb g hg (Array.getElem?_eq_some_iff.1 hh).1]; exact hh, r⟩
theorem owns_below {w w' : World} {base : Nat} {e : TypeId} {size : Nat} {v : Value} {n : Nat} {xs : List Value} (h : w.ownsRow base e size v n xs) (hb : Below w.heap.size w w') : w'.ownsRow base e size v n xs := owns_kept h fun g _ hg => hb.block g hg

def strB (ws : List ByteArray) : List Value := ws.map Value.string
theorem strB_len (ws : List ByteArray) : (strB ws).length = ws.length := by simp [strB]
theorem strB_snoc (ws : List ByteArray) (l : ByteArray) : strB (ws ++ [l]) = strB ws ++ [.string l] := by simp [strB]
theorem strB_app (a b : List ByteArray) : strB (a ++ b) = strB a ++ strB b := by simp [strB]

/-- Where a slice's elements are the texts ws, from cell 0 of its block on. -/
def TxtAt (w : World) (ao : Option Addr) (ws : List ByteArray) : Prop :=
  ws = [] ∨ ∃ g, ao = some ⟨g, 0, none⟩ ∧ g < w.heap.size ∧ ∀ i (h : i < ws.length), w.cell? ⟨g, i, none⟩ = some (.string (ws[i]'h))
theorem TxtAt.kept {w w' : World} {ao : Option Addr} {ws : List ByteArray} (h : TxtAt w ao ws) (hb : ∀ g, ao = some ⟨g, 0, none⟩ → g < w.heap.size → w'.heap[g]? = w.heap[g]?) (hs : w.heap.size ≤ w'.heap.size) : TxtAt w' ao ws := by
  rcases h with h0 | ⟨g, h1, h2, h3⟩
  · exact .inl h0
  · exact .inr ⟨g, h1, by omega, fun i hi => (World.cell?_of_block (a := ⟨g, i, none⟩) (hb g h1 h2)).trans (h3 i hi)⟩
theorem TxtAt.later {w w' : World} {ao : Option Addr} {ws : List ByteArray} (h : TxtAt w ao ws) (hb : Below w.heap.size w w') : TxtAt w' ao ws := h.kept (fun g _ hg => hb.block g hg) hb.size
theorem txt_of_owns {w : World} {B : Nat} {ao : Option Addr} {n cap : Nat} {ws : List ByteArray} (hn : n = ws.length) (h : w.ownsRow B 9 1 (.slice ao n cap) n (strB ws)) : TxtAt w ao ws := by
  by_cases he : ws = []
  · exact .inl he
  · right
    have hpos : 0 < n := by rw [hn]; exact List.length_pos_iff.2 he
    rcases h.2 with ⟨_, h0⟩ | ⟨g, c, cur, hv, hg, hh, hn2, hc, hsz, ht⟩
    · omega
    · cases hv
      refine ⟨g, rfl, (Array.getElem?_eq_some_iff.1 hh).1, fun i hi => ?_⟩
      have e1 : cur.toList[i]? = (strB ws)[i]? := by
        rw [← ht, List.getElem?_take, if_pos (by omega)]
      have e2 : (strB ws)[i]? = some (.string (ws[i]'hi)) := by simp [strB, hi]
      rw [e2] at e1
      simp only [World.cell?, hh]
      simpa using e1

set_option maxHeartbeats 400000 in
theorem eqTxt_none (ao bo : Option Addr) (ca cb : Nat) (w : World) :
    Calls Try.prog 13 #[.slice ao 0 ca, .slice bo 0 cb] w fun e w' => e = .returned (.bool true) ∧ w' = w := by
  go_enter Try.func13, Try.ntmps13
  go_wp2
  go_loop [5] (fun i => i = .int .i64 0) (fun _ => 0)
  case atStart => exact rfl
  case round =>
    subst hrel
    go_wp2
    go_ret
    exact ⟨rfl, rfl⟩

set_option maxHeartbeats 400000 in
theorem eqTxt (ao bo : Option Addr) (ca cb : Nat) (ws : List ByteArray) (w : World) (hn : ws.length ≤ maxLen) (ha : TxtAt w ao ws) (hb : TxtAt w bo ws) :
    Calls Try.prog 13 #[.slice ao ws.length ca, .slice bo ws.length cb] w fun e w' => e = .returned (.bool true) ∧ Below w.heap.size w w' := by
  unfold maxLen at hn
  rcases ha with rfl | ⟨g, rfl, hga, hca⟩
  · exact (eqTxt_none ao bo ca cb w).mono (fun e w' h => ⟨h.1, by rw [h.2]; exact Below.refl _ _⟩)
  · rcases hb with rfl | ⟨g2, rfl, hgb, hcb⟩
    · exact (eqTxt_none _ bo ca cb w).mono (fun e w' h => ⟨h.1, by rw [h.2]; exact Below.refl _ _⟩)
    · go_enter Try.func13, Try.ntmps13
      go_wp2
      go_loopw [5] (fun i wr => ∃ k : Nat, k ≤ ws.length ∧ i = .int .i64 k ∧ ∃ n, wr = w.drewN n) (fun i _ => ws.length - (intOf i).toNat)
      case atStart => exact ⟨0, Nat.zero_le _, rfl, 0, rfl⟩
      case round =>
        obtain ⟨k, hk, rfl, n, rfl⟩ := hrel
        by_cases hlt : k < ws.length
        · have c1 := hca k hlt
          have c2 := hcb k hlt
          clear hca hcb
          go_wp2
          go_quiet (fail)
          go_wp2
          go_roundw
          case rel => exact ⟨k + 1, by omega, by go_num, _, rfl⟩
          case measure => simp [intOf]; omega
        · go_wp2
          go_ret
          exact ⟨rfl, below_drewN (Below.refl _ _) _⟩

/-- The marks from number k on. -/
def mkB (k : Nat) : ByteArray := ⟨(markL k).toArray⟩
def marks (k n : Nat) : List ByteArray := (List.range n).map fun i => mkB (k + i)
theorem marks_len (k n : Nat) : (marks k n).length = n := by simp [marks]
theorem marks_succ (k n : Nat) : marks k (n + 1) = marks k n ++ [mkB (k + n)] := by simp [marks, List.range_succ]
theorem mark_set (k j : Nat) (ws : List ByteArray) (hj : j < ws.length) : (strB (marks k j ++ ws.drop j)).set j (.string (mkB (k + j))) = strB (marks k (j + 1) ++ ws.drop (j + 1)) := by
  have e1 : ws.drop j = ws[j] :: ws.drop (j + 1) := List.drop_eq_getElem_cons hj
  have hl : (strB (marks k j)).length = j := by rw [strB_len, marks_len]
  have e2 : strB (ws[j] :: ws.drop (j + 1)) = .string (ws[j]) :: strB (ws.drop (j + 1)) := rfl
  have e3 : strB [mkB (k + j)] = [.string (mkB (k + j))] := rfl
  rw [e1, strB_app, marks_succ, strB_app, strB_app, List.set_append_right _ _ (by omega), hl, Nat.sub_self, e2, List.set_cons_zero, e3]
  simp

set_option maxHeartbeats 400000 in
theorem markTxt_none (ao : Option Addr) (ca : Nat) (k : Int) (w : World) :
    Calls Try.prog 15 #[.slice ao 0 ca, .int .i64 k] w fun e w' => e = .returned (.int .i64 k) ∧ w' = w := by
  go_enter Try.func15, Try.ntmps15
  go_wp2
  go_loop [1, 5] (fun a i => a = .int .i64 k ∧ i = .int .i64 0) (fun _ _ => 0)
  case atStart => exact ⟨rfl, rfl⟩
  case round =>
    obtain ⟨rfl, rfl⟩ := hrel
    go_wp2
    go_ret
    exact ⟨rfl, rfl⟩

set_option maxHeartbeats 400000 in
theorem markTxt_g (g cap B k : Nat) (ws : List ByteArray) (w : World) (hn : ws.length ≤ 1000000) (hk : k ≤ 1000) (hB : B ≤ w.heap.size)
    (hown : w.ownsRow B 9 1 (.slice (some ⟨g, 0, none⟩) ws.length cap) ws.length (strB ws)) :
    Calls Try.prog 15 #[.slice (some ⟨g, 0, none⟩) ws.length cap, .int .i64 k] w fun e w' => e = .returned (.int .i64 (k + ws.length : Nat)) ∧ Below B w w' ∧
      w'.ownsRow B 9 1 (.slice (some ⟨g, 0, none⟩) ws.length cap) ws.length (strB (marks k ws.length)) := by
  go_enter Try.func15, Try.ntmps15
  go_wp2
  go_loopw [1, 5] (fun a i wr => ∃ j : Nat, j ≤ ws.length ∧ i = .int .i64 j ∧ a = .int .i64 ((k + j : Nat) : Int) ∧ Below B w wr ∧
     wr.ownsRow B 9 1 (.slice (some ⟨g, 0, none⟩) ws.length cap) ws.length (strB (marks k j ++ ws.drop j))) (fun _ i _ => ws.length - (intOf i).toNat)
  case atStart => exact ⟨0, Nat.zero_le _, rfl, rfl, Below.refl _ _, by simpa [marks] using hown⟩
  case round =>
    obtain ⟨j, hj, rfl, rfl, hbel, hO⟩ := hrel
    by_cases hlt : j < ws.length
    · have hsz := hbel.size
      have hgB : B ≤ g := own_ge hO g rfl
      go_wp2_with fail
      refine (markText_int _ _ (by omega) (by omega)).mono ?_
      rintro e w1 ⟨rfl, hb1⟩
      rw [show ((k : Int) + (j : Int)).toNat = k + j from by omega, show (⟨(markL (k + j)).toArray⟩ : ByteArray) = mkB (k + j) from rfl]
      have hO1 := owns_below hO hb1
      have hB1 : Below B w w1 := hbel.trans (hb1.mono (by omega))
      have hcell : w1.cell? ⟨g, j, none⟩ = some (.string (ws[j]'hlt)) := by
        rw [hO1.cellAt j (by omega), strB_app, List.getElem?_append_right (by rw [strB_len, marks_len]; exact Nat.le_refl _), strB_len, marks_len]
        simp [strB, hlt]
      have hfr : w1.frozen? ⟨g, j, none⟩ = false := hO1.frozenAt j
      have hst := (hO1.stored j (.string (mkB (k + j)))).1
      rw [mark_set k j ws hlt] at hst
      have hB2 : Below B w (w1.setCell ⟨g, j, none⟩ (.string (mkB (k + j)))) := hB1.setCell hgB _
      have hmax : ws.length ≤ 1000000 := hn
      clear hb1 hO hO1 hB1 hbel hown
      go_wp2
      go_roundw
      case rel => exact ⟨j + 1, by omega, by go_num, by go_num, hB2, hst⟩
      case measure => simp [intOf]; omega
    · have hj2 : j = ws.length := by omega
      subst hj2
      have hO2 : wr.ownsRow B 9 1 (.slice (some ⟨g, 0, none⟩) ws.length cap) ws.length (strB (marks k ws.length)) := by simpa using hO
      clear hO
      go_wp2
      go_ret
      exact ⟨rfl, hbel, hO2⟩

theorem markTxt (ao : Option Addr) (cap B k : Nat) (ws : List ByteArray) (w : World) (hn : ws.length ≤ 1000000) (hk : k ≤ 1000) (hB : B ≤ w.heap.size)
    (hown : w.ownsRow B 9 1 (.slice ao ws.length cap) ws.length (strB ws)) :
    Calls Try.prog 15 #[.slice ao ws.length cap, .int .i64 k] w fun e w' => e = .returned (.int .i64 (k + ws.length : Nat)) ∧ Below B w w' ∧ TxtAt w' ao (marks k ws.length) := by
  cases ws with
  | nil =>
    refine (markTxt_none ao cap k w).mono fun e w' h => ⟨by rw [h.1]; simp, by rw [h.2]; exact Below.refl _ _, .inl rfl⟩
  | cons x l =>
    obtain ⟨g, cap', hv⟩ := owns_pos (n := l.length) hown
    have hao : ao = some ⟨g, 0, none⟩ := by cases hv; rfl
    subst hao
    exact (markTxt_g g cap B k (x :: l) w hn hk hB hown).mono fun e w' h => ⟨h.1, h.2.1, txt_of_owns (by rw [marks_len]) h.2.2⟩

set_option maxHeartbeats 400000 in
theorem heldTxt_none (ao : Option Addr) (ca : Nat) (k : Int) (w : World) :
    Calls Try.prog 16 #[.slice ao 0 ca, .int .i64 k] w fun e w' => e = .returned (.int .i64 k) ∧ w' = w := by
  go_enter Try.func16, Try.ntmps16
  go_wp2
  go_loop [1, 5] (fun a i => a = .int .i64 k ∧ i = .int .i64 0) (fun _ _ => 0)
  case atStart => exact ⟨rfl, rfl⟩
  case round =>
    obtain ⟨rfl, rfl⟩ := hrel
    go_wp2
    go_ret
    exact ⟨rfl, rfl⟩

set_option maxHeartbeats 400000 in
theorem heldTxt_g (g cap k n : Nat) (w : World) (hn : n ≤ 1000000) (hk : k ≤ 1000)
    (hc : ∀ i, i < n → w.cell? ⟨g, i, none⟩ = some (.string (mkB (k + i)))) (hg : g < w.heap.size) :
    Calls Try.prog 16 #[.slice (some ⟨g, 0, none⟩) n cap, .int .i64 k] w fun e w' => e = .returned (.int .i64 (k + n : Nat)) ∧ Below w.heap.size w w' := by
  go_enter Try.func16, Try.ntmps16
  go_wp2
  go_loopw [1, 5] (fun a i wr => ∃ j : Nat, j ≤ n ∧ i = .int .i64 j ∧ a = .int .i64 ((k + j : Nat) : Int) ∧ Below w.heap.size w wr) (fun _ i _ => n - (intOf i).toNat)
  case atStart => exact ⟨0, Nat.zero_le _, rfl, rfl, Below.refl _ _⟩
  case round =>
    obtain ⟨j, hj, rfl, rfl, hbel⟩ := hrel
    by_cases hlt : j < n
    · have hsz := hbel.size
      have c1 : wr.cell? ⟨g, j, none⟩ = some (.string (mkB (k + j))) := (hbel.cell (by exact hg)).trans (hc j hlt)
      have hg1 : g < wr.heap.size := by omega
      go_wp2
      go_region_with (go_at_call 29; refine (markText_int _ _ (by omega) (by omega)).mono ?_; rintro e w1 ⟨rfl, hb1⟩; rw [show ((k : Int) + (j : Int)).toNat = k + j from by omega, show (⟨(markL (k + j)).toArray⟩ : ByteArray) = mkB (k + j) from rfl]; have c3 := (hb1.cell (p := ⟨g, j, none⟩) (by simpa using hg1)).trans (by simpa using c1))
      all_goals
        go_wp2
        go_roundw
        case rel => exact ⟨j + 1, by omega, by go_num, by go_num, hbel.drew.trans (hb1.mono hsz)⟩
        case measure => simp [intOf]; omega
    · have hj2 : j = n := by omega
      subst hj2
      go_wp2
      go_ret
      exact ⟨rfl, hbel⟩

theorem heldTxt (ao : Option Addr) (cap k n : Nat) (w : World) (hn : n ≤ 1000000) (hk : k ≤ 1000) (h : TxtAt w ao (marks k n)) :
    Calls Try.prog 16 #[.slice ao n cap, .int .i64 k] w fun e w' => e = .returned (.int .i64 (k + n : Nat)) ∧ Below w.heap.size w w' := by
  rcases h with h0 | ⟨g, rfl, hg, hc⟩
  · have : n = 0 := by have := congrArg List.length h0; simpa [marks_len] using this
    subst this
    refine (heldTxt_none ao cap k w).mono fun e w' h => ⟨by rw [h.1]; simp, by rw [h.2]; exact Below.refl _ _⟩
  · refine heldTxt_g g cap k n w hn hk (fun i hi => ?_) hg
    rw [hc i (by rw [marks_len]; exact hi)]
    simp [marks]

end Go.Proofs.Ythbjofobilfbpaa
