/- DERIVED. The sector of a place by an index, on plain data; impl.SkyFind: its walk. -/
import Derived.Test.YthbjofobilfbpaaVSkyIndex
namespace Go.Proofs.Ythbjofobilfbpaa
open Go.RowKit
set_option linter.unusedSimpArgs false
set_option linter.unusedVariables false

abbrev DPlace := Int × Int × Int
def vPl (p : DPlace) : Value := .agg #[.int .i64 p.1, .int .i64 p.2.1, .int .i64 p.2.2]
def PlC (b : Nat) (p : DPlace) (W : World) : Prop := W.cell? ⟨b, 0, none⟩ = some (.int .i64 p.1) ∧ W.cell? ⟨b, 1, none⟩ = some (.int .i64 p.2.1) ∧ W.cell? ⟨b, 2, none⟩ = some (.int .i64 p.2.2)
theorem PlC.below {b m : Nat} {p : DPlace} {w w' : World} (h : PlC b p w) (hb : Below m w w') (hn : b < m) : PlC b p w' := by
  obtain ⟨h0, h1, h2⟩ := h
  exact ⟨(hb.cell (p := ⟨b, 0, none⟩) hn).trans h0, (hb.cell (p := ⟨b, 1, none⟩) hn).trans h1, (hb.cell (p := ⟨b, 2, none⟩) hn).trans h2⟩
def whereV : Option ByteArray → Value
  | none => .tuple #[.string ⟨#[]⟩, .bool false]
  | some n => .tuple #[.string n, .bool true]
def nmOf : Option ByteArray → ByteArray
  | none => ⟨#[]⟩
  | some n => n
theorem whereV_eq (r : Option ByteArray) : whereV r = .tuple #[.string (nmOf r), .bool r.isSome] := by cases r <;> rfl

def InR (n lo hi : Int) : Prop := lo ≤ n ∧ n ≤ hi
instance (n lo hi : Int) : Decidable (InR n lo hi) := by unfold InR; infer_instance
def inRun (r : DSkyRun) (x : Int) : Bool := decide (InR x r.1 r.2.1)
def hitRow (r : DSkyRow) (p : DPlace) : Option ByteArray := if r.1 = p.2.2 ∧ r.2.1 = p.2.1 then (r.2.2.find? fun q => inRun q p.1).map fun q => q.2.2 else none
def findIx (rows : List DSkyRow) (p : DPlace) : Option ByteArray := rows.findSome? fun r => hitRow r p
def NoRow (rows : List DSkyRow) (p : DPlace) (k : Nat) : Prop := ∀ j (h : j < rows.length), j < k → hitRow (rows[j]'h) p = none
def NoRun (rs : List DSkyRun) (x : Int) (k : Nat) : Prop := ∀ j (h : j < rs.length), j < k → inRun (rs[j]'h) x = false
theorem find_none {rows : List DSkyRow} {p : DPlace} (h : NoRow rows p rows.length) : findIx rows p = none := by
  unfold findIx
  rw [List.findSome?_eq_none_iff]
  intro r hr
  obtain ⟨i, hi, rfl⟩ := List.getElem_of_mem hr
  exact h i hi hi
theorem find_some : ∀ {rows : List DSkyRow} {p : DPlace} {k : Nat} (hk : k < rows.length) {n : ByteArray}, NoRow rows p k → hitRow (rows[k]'hk) p = some n → findIx rows p = some n
  | [], _, _, hk, _, _, _ => by simp at hk
  | r :: rs, p, 0, hk, n, _, h => by
    unfold findIx
    rw [List.findSome?_cons, show hitRow r p = some n from h]
  | r :: rs, p, k + 1, hk, n, hno, h => by
    have h0 : hitRow r p = none := hno 0 (by simp) (by omega)
    unfold findIx
    rw [List.findSome?_cons, h0]
    exact find_some (rows := rs) (k := k) (by simpa using hk) (fun j hj hjk => hno (j + 1) (by simpa using hj) (by omega)) h
theorem hit_off {r : DSkyRow} {p : DPlace} (h : ¬ (r.1 = p.2.2 ∧ r.2.1 = p.2.1)) : hitRow r p = none := by unfold hitRow; rw [if_neg h]
theorem hit_none {r : DSkyRow} {p : DPlace} (h : NoRun r.2.2 p.1 r.2.2.length) : hitRow r p = none := by
  unfold hitRow
  split
  · rw [List.find?_eq_none.2 ?_]
    · rfl
    · intro q hq
      obtain ⟨i, hi, rfl⟩ := List.getElem_of_mem hq
      rw [h i hi hi]
      simp
  · rfl
theorem hit_some {r : DSkyRow} {p : DPlace} {m : Nat} (h1 : r.1 = p.2.2) (h2 : r.2.1 = p.2.1) (hm : m < r.2.2.length) (hno : NoRun r.2.2 p.1 m) (h : inRun (r.2.2[m]'hm) p.1 = true) : hitRow r p = some (r.2.2[m]'hm).2.2 := by
  unfold hitRow
  rw [if_pos ⟨h1, h2⟩, (List.find?_eq_some_iff_getElem (b := r.2.2[m]'hm)).2 ?_]
  · rfl
  · refine ⟨h, m, hm, rfl, fun j hj => ?_⟩
    rw [hno j (by omega) hj]
    rfl

theorem from_b (n lo hi : Int) (w : World) (v : Bool) (h : decide (InR n lo hi) = v) :
    Calls Try.prog 22 #[.int .i64 n, .int .i64 lo, .int .i64 hi] w fun e w' => e = .returned (.bool v) ∧ w = w' := by
  subst h
  by_cases h1 : lo ≤ n
  · by_cases h2 : n ≤ hi
    · rw [decide_eq_true (show InR n lo hi from ⟨h1, h2⟩)]
      go_enter Try.func22, Try.ntmps22
      go_wp2
      go_ret
      exact ⟨by simp [h1, h2], rfl⟩
    · rw [decide_eq_false (show ¬ InR n lo hi from fun h => h2 h.2)]
      go_enter Try.func22, Try.ntmps22
      go_wp2
      go_ret
      exact ⟨by simp [h1, h2], rfl⟩
  · rw [decide_eq_false (show ¬ InR n lo hi from fun h => h1 h.1)]
    go_enter Try.func22, Try.ntmps22
    go_wp2
    go_ret
    exact ⟨by simp [h1], rfl⟩
theorem in_b (n lo hi : Int) (w : World) (v : Bool) (h : decide (InR n lo hi) = v) :
    Calls Try.prog 19 #[.int .i64 n, .int .i64 lo, .int .i64 hi] w fun e w' => e = .returned (.bool v) ∧ w = w' := by
  subst h
  by_cases h1 : lo ≤ n
  · by_cases h2 : n ≤ hi
    · rw [decide_eq_true (show InR n lo hi from ⟨h1, h2⟩)]
      go_enter Try.func19, Try.ntmps19
      go_wp2
      go_ret
      exact ⟨by simp [h1, h2], rfl⟩
    · rw [decide_eq_false (show ¬ InR n lo hi from fun h => h2 h.2)]
      go_enter Try.func19, Try.ntmps19
      go_wp2
      go_ret
      exact ⟨by simp [h1, h2], rfl⟩
  · rw [decide_eq_false (show ¬ InR n lo hi from fun h => h1 h.1)]
    go_enter Try.func19, Try.ntmps19
    go_wp2
    go_ret
    exact ⟨by simp [h1], rfl⟩

set_option maxRecDepth 100000 in
set_option maxHeartbeats 2000000 in
theorem iFind (rows : List DSkyRow) (ao0 : Option Addr) (cap0 : Nat) (ao1 : Option Addr) (n1 cap1 : Nat) (p : DPlace) (w : World) (h : SliceAt vSkyRow (old w) w ao0 cap0 rows) :
    Calls Try.prog 9 #[.agg #[.slice ao0 rows.length cap0, .slice ao1 n1 cap1], vPl p] w fun e w' => e = .returned (whereV (findIx rows p)) ∧ Below w.heap.size w w' := by
  obtain ⟨px, py, pl⟩ := p
  have hlen : rows.length ≤ 9223372036854775807 := Nat.le_trans h.1 h.2.1
  have hb0 : Below w.heap.size w ((w.alloc (.cells #[.slice ao0 rows.length cap0, .slice ao1 n1 cap1] 34)).alloc (.cells #[.int .i64 px, .int .i64 py, .int .i64 pl] 36)) := ((Below.refl _ _).alloc (Nat.le_refl _) _).alloc (by simp) _
  have hp0 : PlC (w.heap.size + 1) (px, py, pl) ((w.alloc (.cells #[.slice ao0 rows.length cap0, .slice ao1 n1 cap1] 34)).alloc (.cells #[.int .i64 px, .int .i64 py, .int .i64 pl] 36)) := ⟨by go_simp, by go_simp, by go_simp⟩
  simp only [vPl]
  go_enter Try.func9, Try.ntmps9
  go_wp2
  go_loopw [13] (fun i wr => ∃ k : Nat, k ≤ rows.length ∧ i = .int .i64 k ∧ Hid (NoRow rows (px, py, pl) k) ∧ Below w.heap.size w wr ∧ PlC (w.heap.size + 1) (px, py, pl) wr ∧ w.heap.size + 1 < wr.heap.size) (fun i _ => rows.length - (intOf i).toNat)
  case atStart => exact ⟨0, Nat.zero_le _, rfl, fun j _ hj => by omega, hb0, hp0, by simp⟩
  case round =>
    obtain ⟨k, hk, rfl, hno, hB, hp, hs⟩ := hrel
    have hwz := hB.size
    clear hb0 hp0
    by_cases hlt : k < rows.length
    · obtain ⟨b1, off, ao2, cap2, rfl, hok, c0, c1, c2, q0, q1, p2⟩ := elem_SkyRow h hlt
      have f0 := (hB.cell (p := ⟨b1, off + k * 3, none⟩) hok).trans c0
      have f1 := (hB.cell (p := ⟨b1, off + k * 3 + 1, none⟩) hok).trans c1
      have f2 := (hB.cell (p := ⟨b1, off + k * 3 + 2, none⟩) hok).trans c2
      have hkI : (k : Int) < (rows.length : Int) := by omega
      have HSOME : Hid (∀ n, hitRow (rows[k]'hlt) (px, py, pl) = some n → findIx rows (px, py, pl) = some n) := fun n hn => find_some hlt hno.out hn
      have HNEXT : Hid (hitRow (rows[k]'hlt) (px, py, pl) = none → NoRow rows (px, py, pl) (k + 1)) := fun h1 j hj h2 => by
        by_cases e : j = k
        · subst e; exact h1
        · exact hno.out j hj (by omega)
      have hlen1 : (rows[k]'hlt).2.2.length ≤ 9223372036854775807 := Nat.le_trans p2.1 p2.2.1
      generalize rows[k]'hlt = rk at *
      obtain ⟨lv, ry, rs⟩ := rk
      simp only at f0 f1 f2 p2 HSOME HNEXT q0 q1 hlen1
      clear c0 c1 c2 hno
      obtain ⟨wo, hwo⟩ : ∃ x, x = wr := ⟨_, rfl⟩
      subst hwo
      have hB1 : Below w.heap.size w (wo.alloc (.cells #[.int .i64 lv, .int .i64 ry, .slice ao2 rs.length cap2] 50)) := hB.alloc (by omega) _
      have hp1 := hp.below ((Below.refl (w.heap.size + 2) wo).alloc (by omega) (.cells #[.int .i64 lv, .int .i64 ry, .slice ao2 rs.length cap2] 50)) (by omega)
      obtain ⟨u0, u1, u2⟩ := hp
      by_cases hL : lv = pl
      · by_cases hY : ry = py
        · subst hL hY
          go_wp2
          go_loopw [32] (fun i wr => ∃ m : Nat, m ≤ rs.length ∧ i = .int .i64 m ∧ Hid (NoRun rs px m) ∧ Below w.heap.size w wr ∧ PlC (w.heap.size + 1) (px, ry, lv) wr ∧ w.heap.size + 1 < wr.heap.size) (fun i _ => rs.length - (intOf i).toNat)
          case atStart => exact ⟨0, Nat.zero_le _, rfl, fun j _ hj => by omega, hB1, hp1, by simp; omega⟩
          case round =>
            obtain ⟨m, hm, rfl, hnb, hB2, hp2, hs2⟩ := hrel
            have hwz2 := hB2.size
            clear hB1 hp1 hB u0 u1 u2 f0 f1 f2
            by_cases hltm : m < rs.length
            · obtain ⟨b2, off2, rfl, hok2, d0, d1, d2, _, _, _⟩ := elem_SkyRun p2 hltm
              have g0 := (hB2.cell (p := ⟨b2, off2 + m * 3, none⟩) hok2).trans d0
              have g1 := (hB2.cell (p := ⟨b2, off2 + m * 3 + 1, none⟩) hok2).trans d1
              have g2 := (hB2.cell (p := ⟨b2, off2 + m * 3 + 2, none⟩) hok2).trans d2
              have hmI : (m : Int) < (rs.length : Int) := by omega
              have HH : Hid (inRun (rs[m]'hltm) px = true → findIx rows (px, ry, lv) = some (rs[m]'hltm).2.2) := fun ht => HSOME.out _ (hit_some (r := (lv, ry, rs)) rfl rfl hltm hnb.out ht)
              have HN : Hid (inRun (rs[m]'hltm) px = false → NoRun rs px (m + 1)) := fun hf j hj h2 => by
                by_cases e : j = m
                · subst e; exact hf
                · exact hnb.out j hj (by omega)
              generalize rs[m]'hltm = rm at *
              obtain ⟨x0, x1, nm⟩ := rm
              simp only at g0 g1 g2 HH HN
              have HF := fun W => from_b px x0 x1 W (inRun (x0, x1, nm) px) rfl
              generalize inRun (x0, x1, nm) px = v at *
              have hB3 : Below w.heap.size w (wr.alloc (.cells #[.int .i64 x0, .int .i64 x1, .string nm] 53)) := hB2.alloc (by omega) _
              have hp3 := hp2.below ((Below.refl (w.heap.size + 2) wr).alloc (by omega) (.cells #[.int .i64 x0, .int .i64 x1, .string nm] 53)) (by omega)
              obtain ⟨u0, u1, u2⟩ := hp2
              clear d0 d1 d2 hnb
              go_wp2_with fail
              refine (HF _).mono ?_
              rintro e w3 ⟨rfl, rfl⟩
              clear HF
              cases v
              · have HN2 : Hid (NoRun rs px (m + 1)) := HN.out rfl
                clear HN HH
                go_wp2
                go_roundw
                case rel => exact ⟨m + 1, by omega, by go_num, HN2, hB3, hp3, by simp; omega⟩
                case measure => simp [intOf]; omega
              · have HH2 : Hid (findIx rows (px, ry, lv) = some nm) := HH.out rfl
                clear HN HH
                go_wp2
                exact bodyPost_ret (v := .tuple #[.string nm, .bool true]) (by simp [results, Try.results9, go_sem]) rfl ⟨by rw [HH2.out]; rfl, hB3⟩
            · have hme : m = rs.length := by omega
              subst hme
              have HN2 : Hid (NoRow rows (px, ry, lv) (k + 1)) := HNEXT.out (hit_none hnb.out)
              clear hnb HNEXT HSOME
              go_wp2
              go_roundw
              case rel => exact ⟨k + 1, by omega, by go_num, HN2, hB2, hp2, hs2⟩
              case measure => simp [intOf]; omega
        · subst hL
          have HN2 : Hid (NoRow rows (px, py, lv) (k + 1)) := HNEXT.out (hit_off fun hh => hY hh.2)
          clear HNEXT HSOME
          go_wp2
          go_roundw
          case rel => exact ⟨k + 1, by omega, by go_num, HN2, hB1, hp1, by simp; omega⟩
          case measure => simp [intOf]; omega
      · have HN2 : Hid (NoRow rows (px, py, pl) (k + 1)) := HNEXT.out (hit_off fun hh => hL hh.1)
        clear HNEXT HSOME
        go_wp2
        go_roundw
        case rel => exact ⟨k + 1, by omega, by go_num, HN2, hB1, hp1, by simp; omega⟩
        case measure => simp [intOf]; omega
    · have hke : k = rows.length := by omega
      subst hke
      have HE : Hid (findIx rows (px, py, pl) = none) := find_none hno.out
      clear hno
      go_wp2
      exact bodyPost_ret (v := .tuple #[.string ⟨#[]⟩, .bool false]) (by simp [results, Try.results9, go_sem]) rfl ⟨by rw [HE.out]; rfl, hB⟩

end Go.Proofs.Ythbjofobilfbpaa
