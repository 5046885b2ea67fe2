/- DERIVED. The law's own small functions: markText, eqStringS, markStringS, heldStringS: their walks. -/
import Derived.Test.YtlkalmpmfblnfaaSw5
import Derived.Laws.IdiomStrings
import Derived.Deep.RegionWith
namespace Go.Proofs.Ytlkalmpmfblnfaa
open Go.RowKit
set_option linter.unusedSimpArgs false
set_option linter.unusedVariables false

/-- The decimal digits of k, as bytes. -/
def digs : Nat → Nat → List UInt8
  | 0, _ => []
  | f + 1, k => if k = 0 then [] else digs f (k / 10) ++ [UInt8.ofNat (48 + k % 10)]

theorem digs_zero (f : Nat) : digs f 0 = [] := by cases f <;> simp [digs]
theorem digs_len : ∀ f k, (digs f k).length ≤ f
  | 0, _ => Nat.le_refl _
  | f + 1, k => by
    have := digs_len f (k / 10)
    unfold digs
    split <;> simp <;> omega

def markL (k : Nat) : List UInt8 := if k = 0 then [109, 48] else 109 :: digs k k

theorem cons_byte (c : UInt8) (l : List UInt8) : ((⟨#[c]⟩ : ByteArray) ++ (⟨l.toArray⟩ : ByteArray)) = ⟨(c :: l).toArray⟩ := by
  apply ByteArray.ext
  simp [ByteArray.data_append]

theorem size_list (l : List UInt8) : (⟨l.toArray⟩ : ByteArray).size = l.length := by simp [ByteArray.size]

theorem dig_cell (k : Nat) : ((UInt8.ofNat (48 + k % 10)).toNat : Int) = 48 + (k : Int) % 10 := by
  have : (UInt8.ofNat (48 + k % 10)).toNat = 48 + k % 10 := by
    rw [UInt8.toNat_ofNat']; omega
  rw [this]; omega

theorem conv_dig (w : World) (k : Nat) :
    (convert 22 9 (.slice (some ⟨w.heap.size, 0, none⟩) 1 1)).run Try.prog (w.alloc (.cells #[.int .u8 (48 + (k : Int) % 10)] 5)) = .ok (.string ⟨#[UInt8.ofNat (48 + k % 10)]⟩) (w.alloc (.cells #[.int .u8 (48 + (k : Int) % 10)] 5)) := by
  refine run_convert_bytes_back (P := Try.prog) (w.alloc (.cells #[.int .u8 (48 + (k : Int) % 10)] 5)) 22 9 5 ⟨w.heap.size, 0, none⟩ 1 [UInt8.ofNat (48 + k % 10)] Try.underlying22 Try.underlying5 Try.underlying9 ?_
  intro j hj
  match j, hj with
  | 0, _ => simp only [List.getElem_cons_zero, dig_cell]; simp [Addr.add]

theorem digs_next (f k : Nat) (s D : List UInt8) (hk : 0 < k) (h : digs (f + 1) k ++ s = D) : digs f (k / 10) ++ (UInt8.ofNat (48 + k % 10) :: s) = D := by
  rw [← h]
  have : ¬ k = 0 := by omega
  simp [digs, this]

set_option maxHeartbeats 400000 in
theorem markText_any (K : Nat) (w : World) (hK : K ≤ 100000) :
    Calls Try.prog 20 #[.int .i64 K] w fun e w' => e = .returned (.string ⟨(markL K).toArray⟩) ∧ Below w.heap.size w w' := by
  by_cases h0 : K = 0
  · subst h0
    go_enter Try.func20, Try.ntmps20
    go_wp2
    go_ret
    exact ⟨rfl, Below.refl _ _⟩
  · have hpos : 0 < K := by omega
    have hL := digs_len K K
    obtain ⟨D, hD⟩ : ∃ D, D = digs K K := ⟨_, rfl⟩
    rw [← hD] at hL
    have HM : Hid (markL K = 109 :: D) := by show _ = _; simp [markL, h0, hD]
    have HD : Hid (D = digs K K) := hD
    have h5 : decide ((K : Int) ≤ 0) = false := by simp; omega
    clear hD h0
    go_enter Try.func20, Try.ntmps20
    go_wp2
    go_loopw [0, 3] (fun a b wr => ∃ (f k : Nat) (s : List UInt8), k ≤ f ∧ k ≤ K ∧ a = .int .i64 k ∧ b = .string ⟨s.toArray⟩ ∧ Hid (digs f k ++ s = D) ∧ Below w.heap.size w wr) (fun a _ _ => (intOf a).toNat)
    case atStart => exact ⟨K, K, [], Nat.le_refl _, Nat.le_refl _, rfl, rfl, by show _ = _; rw [List.append_nil, HD.out], Below.refl _ _⟩
    case round =>
      obtain ⟨f, k, s, hkf, hkK, rfl, rfl, hs, hbel⟩ := hrel
      have hsl : s.length ≤ K := by have := congrArg List.length hs.out; simp at this; omega
      have hsz := hbel.size
      by_cases hk : 0 < k
      · obtain ⟨f', rfl⟩ : ∃ f', f = f' + 1 := ⟨f - 1, by omega⟩
        have hcv := conv_dig wr k
        have HN : Hid _ := digs_next f' k s D hk hs.out
        obtain ⟨c, hc⟩ : ∃ c, c = UInt8.ofNat (48 + k % 10) := ⟨_, rfl⟩
        rw [← hc] at hcv HN
        have hadd := fun W => run_string_add_sum (P := Try.prog) W ⟨#[c]⟩ ⟨s.toArray⟩ (by
          have h1 : (⟨#[c]⟩ : ByteArray).size = 1 := rfl
          have h2 := size_list s
          omega)
        rw [cons_byte] at hadd
        clear hs hc
        go_wp2
        go_roundw
        case rel => exact ⟨f', k / 10, c :: s, by omega, by omega, by go_num, rfl, HN, hbel.alloc hsz _⟩
        case measure => simp [intOf]; omega
      · have hk0 : k = 0 := by omega
        subst hk0
        have HS : Hid (s = D) := by have := hs.out; rw [digs_zero] at this; exact this
        have hadd := fun W => run_string_add_sum (P := Try.prog) W ⟨#[109]⟩ ⟨s.toArray⟩ (by
          have h1 : (⟨#[109]⟩ : ByteArray).size = 1 := rfl
          have h2 := size_list s
          omega)
        rw [cons_byte] at hadd
        go_wp2
        go_ret
        exact ⟨by rw [HM.out, ← HS.out]; rfl, hbel⟩

theorem markText_int (m : Int) (w : World) (h0 : 0 ≤ m) (h1 : m ≤ 100000) :
    Calls Try.prog 20 #[.int .i64 m] w fun e w' => e = .returned (.string ⟨(markL m.toNat).toArray⟩) ∧ Below w.heap.size w w' := by
  obtain ⟨K, rfl⟩ := Int.eq_ofNat_of_zero_le h0
  exact markText_any K w (by omega)

/-- Where a slice's elements are the texts ws, from cell 0 of its block on. -/
def HasStrs (w : World) (ao : Option Addr) (ws : List (List UInt8)) : Prop :=
  ws = [] ∨ ∃ g, ao = some ⟨g, 0, none⟩ ∧ ∀ i (h : i < ws.length), w.cell? ⟨g, i, none⟩ = some (.string ⟨(ws[i]'h).toArray⟩)

theorem has_of_owns {w : World} {B : Nat} {ao : Option Addr} {n cap : Nat} {ws : List (List UInt8)} (hn : n = ws.length) (h : w.ownsRow B 9 1 (.slice ao n cap) n (strs ws)) : HasStrs w ao ws := by
  by_cases he : ws = []
  · exact .inl he
  · right
    have hpos : 0 < n := by rw [hn]; exact List.length_pos_iff.2 he
    rcases h.2 with ⟨_, h0⟩ | ⟨g, c, cur, hv, hg, hh, hn2, hc, hsz, ht⟩
    · omega
    · cases hv
      refine ⟨g, rfl, fun i hi => ?_⟩
      have e1 : cur.toList[i]? = (strs ws)[i]? := by
        rw [← ht, List.getElem?_take, if_pos (by omega)]
      have e2 : (strs ws)[i]? = some (.string ⟨(ws[i]'hi).toArray⟩) := by simp [strs, hi]
      rw [e2] at e1
      simp only [World.cell?, hh]
      simpa using e1

set_option maxHeartbeats 400000 in
theorem eqStrs_none (ao bo : Option Addr) (ca cb : Nat) (w : World) :
    Calls Try.prog 9 #[.slice ao 0 ca, .slice bo 0 cb] w fun e w' => e = .returned (.bool true) ∧ w' = w := by
  go_enter Try.func9, Try.ntmps9
  go_wp2
  go_loop [5] (fun i => i = .int .i64 0) (fun _ => 0)
  case atStart => exact rfl
  case round =>
    subst hrel
    go_wp2
    go_ret
    exact ⟨rfl, rfl⟩

set_option maxHeartbeats 400000 in
theorem eqStrs_same (ao bo : Option Addr) (ca cb : Nat) (ws : List (List UInt8)) (w : World) (hn : ws.length ≤ 1000) (ha : HasStrs w ao ws) (hb : HasStrs w bo ws) :
    Calls Try.prog 9 #[.slice ao ws.length ca, .slice bo ws.length cb] w fun e w' => e = .returned (.bool true) ∧ ∃ n, w' = w.drewN n := by
  rcases ha with rfl | ⟨g, rfl, hca⟩
  · exact (eqStrs_none ao bo ca cb w).mono (fun e w' h => ⟨h.1, 0, h.2⟩)
  · rcases hb with rfl | ⟨g2, rfl, hcb⟩
    · exact (eqStrs_none _ bo ca cb w).mono (fun e w' h => ⟨h.1, 0, h.2⟩)
    · go_enter Try.func9, Try.ntmps9
      go_wp2
      go_loopw [5] (fun i wr => ∃ k : Nat, k ≤ ws.length ∧ i = .int .i64 k ∧ ∃ n, wr = w.drewN n) (fun i _ => ws.length - (intOf i).toNat)
      case atStart => exact ⟨0, Nat.zero_le _, rfl, 0, rfl⟩
      case round =>
        obtain ⟨k, hk, rfl, n, rfl⟩ := hrel
        by_cases hlt : k < ws.length
        · have c1 := hca k hlt
          have c2 := hcb k hlt
          clear hca hcb
          go_wp2
          go_quiet (fail)
          go_wp2
          go_roundw
          case rel => exact ⟨k + 1, by omega, by go_num, _, rfl⟩
          case measure => simp [intOf]; omega
        · go_wp2
          go_ret
          exact ⟨rfl, _, rfl⟩

/-- The marks from number k on. -/
def marks (k n : Nat) : List (List UInt8) := (List.range n).map fun i => markL (k + i)

theorem marks_len (k n : Nat) : (marks k n).length = n := by simp [marks]

theorem marks_succ (k n : Nat) : marks k (n + 1) = marks k n ++ [markL (k + n)] := by simp [marks, List.range_succ]

theorem strs_app (a b : List (List UInt8)) : strs (a ++ b) = strs a ++ strs b := by simp [strs]

/-- One mark more laid over the next text. -/
theorem mark_set (k j : Nat) (ws : List (List UInt8)) (hj : j < ws.length) : (strs (marks k j ++ ws.drop j)).set j (.string ⟨(markL (k + j)).toArray⟩) = strs (marks k (j + 1) ++ ws.drop (j + 1)) := by
  have e1 : ws.drop j = ws[j] :: ws.drop (j + 1) := List.drop_eq_getElem_cons hj
  have hl : (strs (marks k j)).length = j := by rw [strs_len, marks_len]
  have e2 : strs (ws[j] :: ws.drop (j + 1)) = .string ⟨(ws[j]).toArray⟩ :: strs (ws.drop (j + 1)) := rfl
  have e3 : strs [markL (k + j)] = [.string ⟨(markL (k + j)).toArray⟩] := rfl
  rw [e1, strs_app, marks_succ, strs_app, strs_app, List.set_append_right _ _ (by omega), hl, Nat.sub_self, e2, List.set_cons_zero, e3]
  simp

set_option maxHeartbeats 400000 in
theorem markStrs_none (ao : Option Addr) (ca : Nat) (k : Int) (w : World) :
    Calls Try.prog 10 #[.slice ao 0 ca, .int .i64 k] w fun e w' => e = .returned (.int .i64 k) ∧ w' = w := by
  go_enter Try.func10, Try.ntmps10
  go_wp2
  go_loop [1, 5] (fun a i => a = .int .i64 k ∧ i = .int .i64 0) (fun _ _ => 0)
  case atStart => exact ⟨rfl, rfl⟩
  case round =>
    obtain ⟨rfl, rfl⟩ := hrel
    go_wp2
    go_ret
    exact ⟨rfl, rfl⟩

set_option maxHeartbeats 400000 in
theorem markStrs_any (g cap B k : Nat) (ws : List (List UInt8)) (w : World) (hn : ws.length ≤ 1000) (hk : k ≤ 1000) (hB : B ≤ w.heap.size)
    (hown : w.ownsRow B 9 1 (.slice (some ⟨g, 0, none⟩) ws.length cap) ws.length (strs ws)) :
    Calls Try.prog 10 #[.slice (some ⟨g, 0, none⟩) ws.length cap, .int .i64 k] w fun e w' => e = .returned (.int .i64 (k + ws.length : Nat)) ∧ Below B w w' ∧
      w'.ownsRow B 9 1 (.slice (some ⟨g, 0, none⟩) ws.length cap) ws.length (strs (marks k ws.length)) := by
  go_enter Try.func10, Try.ntmps10
  go_wp2
  go_loopw [1, 5] (fun a i wr => ∃ j : Nat, j ≤ ws.length ∧ i = .int .i64 j ∧ a = .int .i64 ((k + j : Nat) : Int) ∧ Below B w wr ∧
     wr.ownsRow B 9 1 (.slice (some ⟨g, 0, none⟩) ws.length cap) ws.length (strs (marks k j ++ ws.drop j))) (fun _ i _ => ws.length - (intOf i).toNat)
  case atStart => exact ⟨0, Nat.zero_le _, rfl, rfl, Below.refl _ _, by simpa [marks] using hown⟩
  case round =>
    obtain ⟨j, hj, rfl, rfl, hbel, hO⟩ := hrel
    by_cases hlt : j < ws.length
    · have hsz := hbel.size
      have hgB : B ≤ g := own_ge hO g rfl
      go_wp2_with fail
      refine (markText_int _ _ (by omega) (by omega)).mono ?_
      rintro e w1 ⟨rfl, hb1⟩
      rw [show ((k : Int) + (j : Int)).toNat = k + j from by omega]
      have hO1 := owns_below hO hb1
      have hB1 : Below B w w1 := hbel.trans (hb1.mono (by omega))
      have hcell : w1.cell? ⟨g, j, none⟩ = some (.string ⟨(ws[j]'hlt).toArray⟩) := by
        rw [hO1.cellAt j (by omega), strs_app, List.getElem?_append_right (by rw [strs_len, marks_len]; exact Nat.le_refl _), strs_len, marks_len]
        simp [strs, hlt]
      have hfr : w1.frozen? ⟨g, j, none⟩ = false := hO1.frozenAt j
      have hst := (hO1.stored j (.string ⟨(markL (k + j)).toArray⟩)).1
      rw [mark_set k j ws hlt] at hst
      have hB2 : Below B w (w1.setCell ⟨g, j, none⟩ (.string ⟨(markL (k + j)).toArray⟩)) := hB1.setCell hgB _
      have hmax : ws.length ≤ 1000 := hn
      clear hb1 hO hO1 hB1 hbel hown
      go_wp2
      go_roundw
      case rel => exact ⟨j + 1, by omega, by go_num, by go_num, hB2, hst⟩
      case measure => simp [intOf]; omega
    · have hj2 : j = ws.length := by omega
      subst hj2
      have hO2 : wr.ownsRow B 9 1 (.slice (some ⟨g, 0, none⟩) ws.length cap) ws.length (strs (marks k ws.length)) := by simpa using hO
      clear hO
      go_wp2
      go_ret
      exact ⟨rfl, hbel, hO2⟩

set_option maxHeartbeats 400000 in
theorem heldStrs_none (ao : Option Addr) (ca : Nat) (k : Int) (w : World) :
    Calls Try.prog 11 #[.slice ao 0 ca, .int .i64 k] w fun e w' => e = .returned (.int .i64 k) ∧ w' = w := by
  go_enter Try.func11, Try.ntmps11
  go_wp2
  go_loop [1, 5] (fun a i => a = .int .i64 k ∧ i = .int .i64 0) (fun _ _ => 0)
  case atStart => exact ⟨rfl, rfl⟩
  case round =>
    obtain ⟨rfl, rfl⟩ := hrel
    go_wp2
    go_ret
    exact ⟨rfl, rfl⟩

set_option maxHeartbeats 400000 in
theorem heldStrs_any (g cap k n : Nat) (w : World) (hn : n ≤ 1000) (hk : k ≤ 1000)
    (hc : ∀ i, i < n → w.cell? ⟨g, i, none⟩ = some (.string ⟨(markL (k + i)).toArray⟩)) (hg : g < w.heap.size) :
    Calls Try.prog 11 #[.slice (some ⟨g, 0, none⟩) n cap, .int .i64 k] w fun e w' => e = .returned (.int .i64 (k + n : Nat)) ∧ Below w.heap.size w w' := by
  go_enter Try.func11, Try.ntmps11
  go_wp2
  go_loopw [1, 5] (fun a i wr => ∃ j : Nat, j ≤ n ∧ i = .int .i64 j ∧ a = .int .i64 ((k + j : Nat) : Int) ∧ Below w.heap.size w wr) (fun _ i _ => n - (intOf i).toNat)
  case atStart => exact ⟨0, Nat.zero_le _, rfl, rfl, Below.refl _ _⟩
  case round =>
    obtain ⟨j, hj, rfl, rfl, hbel⟩ := hrel
    by_cases hlt : j < n
    · have hsz := hbel.size
      have c1 : wr.cell? ⟨g, j, none⟩ = some (.string ⟨(markL (k + j)).toArray⟩) := (hbel.cell (by exact hg)).trans (hc j hlt)
      have hg1 : g < wr.heap.size := by omega
      go_wp2
      go_region_with (go_at_call 20; refine (markText_int _ _ (by omega) (by omega)).mono ?_; rintro e w1 ⟨rfl, hb1⟩; rw [show ((k : Int) + (j : Int)).toNat = k + j from by omega]; have c3 := (hb1.cell (p := ⟨g, j, none⟩) (by simpa using hg1)).trans (by simpa using c1))
      all_goals
        go_wp2
        go_roundw
        case rel => exact ⟨j + 1, by omega, by go_num, by go_num, hbel.drew.trans (hb1.mono hsz)⟩
        case measure => simp [intOf]; omega
    · have hj2 : j = n := by omega
      subst hj2
      go_wp2
      go_ret
      exact ⟨rfl, hbel⟩

end Go.Proofs.Ytlkalmpmfblnfaa
