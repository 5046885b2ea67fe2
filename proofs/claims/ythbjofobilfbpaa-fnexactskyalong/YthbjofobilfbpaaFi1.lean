/- DERIVED. spec.SkyFind: its walk. -/
import Derived.Test.YthbjofobilfbpaaFi0
import Derived.Deep.QuietTactic
import Derived.BigQuiet
namespace Go.Proofs.Ythbjofobilfbpaa
open Go.RowKit
set_option linter.unusedSimpArgs false
set_option linter.unusedVariables false

/-- The box of an index. -/
def IxC (b : Nat) (c0 c1 : Value) (W : World) : Prop := W.cell? ⟨b, 0, none⟩ = some c0 ∧ W.cell? ⟨b, 1, none⟩ = some c1
theorem IxC.below {b m : Nat} {c0 c1 : Value} {w w' : World} (h : IxC b c0 c1 w) (hb : Below m w w') (hn : b < m) : IxC b c0 c1 w' :=
  ⟨(hb.cell (p := ⟨b, 0, none⟩) hn).trans h.1, (hb.cell (p := ⟨b, 1, none⟩) hn).trans h.2⟩

set_option maxRecDepth 100000 in
set_option maxHeartbeats 4000000 in
theorem sFind (rows : List DSkyRow) (ao0 : Option Addr) (cap0 : Nat) (ao1 : Option Addr) (n1 cap1 : Nat) (p : DPlace) (w : World) (h : SliceAt vSkyRow (old w) w ao0 cap0 rows) :
    Calls Try.prog 6 #[.agg #[.slice ao0 rows.length cap0, .slice ao1 n1 cap1], vPl p] w fun e w' => e = .returned (whereV (findIx rows p)) ∧ Below w.heap.size w w' := by
  obtain ⟨px, py, pl⟩ := p
  have hlen : rows.length ≤ 9223372036854775807 := Nat.le_trans h.1 h.2.1
  have hb0 : Below w.heap.size w ((w.alloc (.cells #[.slice ao0 rows.length cap0, .slice ao1 n1 cap1] 34)).alloc (.cells #[.int .i64 px, .int .i64 py, .int .i64 pl] 36)) := ((Below.refl _ _).alloc (Nat.le_refl _) _).alloc (by simp) _
  have hp0 : PlC (w.heap.size + 1) (px, py, pl) ((w.alloc (.cells #[.slice ao0 rows.length cap0, .slice ao1 n1 cap1] 34)).alloc (.cells #[.int .i64 px, .int .i64 py, .int .i64 pl] 36)) := ⟨by go_simp, by go_simp, by go_simp⟩
  have hx0 : IxC w.heap.size (.slice ao0 rows.length cap0) (.slice ao1 n1 cap1) ((w.alloc (.cells #[.slice ao0 rows.length cap0, .slice ao1 n1 cap1] 34)).alloc (.cells #[.int .i64 px, .int .i64 py, .int .i64 pl] 36)) := ⟨by go_simp, by go_simp⟩
  simp only [vPl]
  go_enter Try.func6, Try.ntmps6
  go_wp2
  go_loopw [6] (fun i wr => ∃ k : Nat, k ≤ rows.length ∧ i = .int .i64 k ∧ Hid (NoRow rows (px, py, pl) k) ∧ Below w.heap.size w wr ∧ PlC (w.heap.size + 1) (px, py, pl) wr ∧ IxC w.heap.size (.slice ao0 rows.length cap0) (.slice ao1 n1 cap1) wr ∧ w.heap.size + 1 < wr.heap.size) (fun i _ => rows.length - (intOf i).toNat)
  case atStart => exact ⟨0, Nat.zero_le _, rfl, fun j _ hj => by omega, hb0, hp0, hx0, by simp⟩
  case round =>
    obtain ⟨k, hk, rfl, hno, hB, hp, hx, hs⟩ := hrel
    have hwz := hB.size
    clear hb0 hp0 hx0
    have hp' := hp
    have hx' := hx
    obtain ⟨u0, u1, u2⟩ := hp
    obtain ⟨v0, v1⟩ := hx
    by_cases hlt : k < rows.length
    · obtain ⟨b1, off, ao2, cap2, rfl, hok, c0, c1, c2, q0, q1, p2⟩ := elem_SkyRow h hlt
      have f0 := (hB.cell (p := ⟨b1, off + k * 3, none⟩) hok).trans c0
      have f1 := (hB.cell (p := ⟨b1, off + k * 3 + 1, none⟩) hok).trans c1
      have f2 := (hB.cell (p := ⟨b1, off + k * 3 + 2, none⟩) hok).trans c2
      have hkI : (k : Int) < (rows.length : Int) := by omega
      have HSOME : Hid (∀ n, hitRow (rows[k]'hlt) (px, py, pl) = some n → findIx rows (px, py, pl) = some n) := fun n hn => find_some hlt hno.out hn
      have HNEXT : Hid (hitRow (rows[k]'hlt) (px, py, pl) = none → NoRow rows (px, py, pl) (k + 1)) := fun h1 j hj h2 => by
        by_cases e : j = k
        · subst e; exact h1
        · exact hno.out j hj (by omega)
      have hlen1 : (rows[k]'hlt).2.2.length ≤ 9223372036854775807 := Nat.le_trans p2.1 p2.2.1
      generalize rows[k]'hlt = rk at *
      obtain ⟨lv, ry, rs⟩ := rk
      simp only at c2 f0 f1 f2 p2 HSOME HNEXT q0 q1 hlen1
      clear c0 c1 hno
      obtain ⟨wo, hwo⟩ : ∃ x, x = wr := ⟨_, rfl⟩
      subst hwo
      have hd : ∀ n, Below wo.heap.size wo (wo.drewN n) := fun n => below_drewN (Below.refl _ _) n
      by_cases hL : lv = pl
      · by_cases hY : ry = py
        · subst hL hY
          go_wp2
          go_quiet (fail)
          go_wp2
          go_loopw [7] (fun i wr => ∃ m : Nat, m ≤ rs.length ∧ i = .int .i64 m ∧ Hid (NoRun rs px m) ∧ ∃ n, wr = wo.drewN n) (fun i _ => rs.length - (intOf i).toNat)
          case atStart => exact ⟨0, Nat.zero_le _, rfl, fun j _ hj => by omega, _, rfl⟩
          case round =>
            obtain ⟨m, hm, rfl, hnb, n, rfl⟩ := hrel
            by_cases hltm : m < rs.length
            · obtain ⟨b2, off2, rfl, hok2, d0, d1, d2, _, _, _⟩ := elem_SkyRun p2 hltm
              have g0 := (hB.cell (p := ⟨b2, off2 + m * 3, none⟩) hok2).trans d0
              have g1 := (hB.cell (p := ⟨b2, off2 + m * 3 + 1, none⟩) hok2).trans d1
              have g2 := (hB.cell (p := ⟨b2, off2 + m * 3 + 2, none⟩) hok2).trans d2
              have hmI : (m : Int) < (rs.length : Int) := by omega
              have HH : Hid (inRun (rs[m]'hltm) px = true → findIx rows (px, ry, lv) = some (rs[m]'hltm).2.2) := fun ht => HSOME.out _ (hit_some (r := (lv, ry, rs)) rfl rfl hltm hnb.out ht)
              have HN : Hid (inRun (rs[m]'hltm) px = false → NoRun rs px (m + 1)) := fun hf j hj h2 => by
                by_cases e : j = m
                · subst e; exact hf
                · exact hnb.out j hj (by omega)
              generalize rs[m]'hltm = rm at *
              obtain ⟨x0, x1, nm⟩ := rm
              simp only at g0 g1 g2 HH HN
              have HF := fun W => (in_b px x0 x1 W (inRun (x0, x1, nm) px) rfl).mono (fun e w' (hh : _ ∧ W = w') => (⟨hh.1, hh.2.symm⟩ : _ ∧ w' = W))
              generalize inRun (x0, x1, nm) px = v at *
              clear d0 d1 d2 hnb
              go_wp2
              go_quiet ((go_at_call 19; refine (HF _).mono ?_; rintro e w9 ⟨rfl, rfl⟩; exact ⟨rfl, _, rfl⟩))
              clear HF
              cases v
              · have HN2 : Hid (NoRun rs px (m + 1)) := HN.out rfl
                clear HN HH
                go_wp2
                go_roundw
                case rel => exact ⟨m + 1, by omega, by go_num, HN2, _, rfl⟩
                case measure => simp [intOf]; omega
              · have HH2 : Hid (findIx rows (px, ry, lv) = some nm) := HH.out rfl
                clear HN HH
                go_wp2
                exact bodyPost_ret (v := .tuple #[.string nm, .bool true]) (by simp [results, Try.results6, go_sem]) rfl ⟨by rw [HH2.out]; rfl, hB.trans ((hd _).mono hwz)⟩
            · have hme : m = rs.length := by omega
              subst hme
              have HN2 : Hid (NoRow rows (px, ry, lv) (k + 1)) := HNEXT.out (hit_none hnb.out)
              clear hnb HNEXT HSOME
              go_wp2
              go_roundw
              case rel => exact ⟨k + 1, by omega, by go_num, HN2, hB.trans ((hd _).mono hwz), hp'.below (hd _) (by omega), hx'.below (hd _) (by omega), by have := (hd n).size; omega⟩
              case measure => simp [intOf]; omega
        · subst hL
          have HN2 : Hid (NoRow rows (px, py, lv) (k + 1)) := HNEXT.out (hit_off fun hh => hY hh.2)
          clear HNEXT HSOME
          go_wp2
          go_quiet (fail)
          go_wp2
          go_roundw
          case rel => exact ⟨k + 1, by omega, by go_num, HN2, hB.trans ((hd _).mono hwz), hp'.below (hd _) (by omega), hx'.below (hd _) (by omega), by simpa using hs⟩
          case measure => simp [intOf]; omega
      · have HN2 : Hid (NoRow rows (px, py, pl) (k + 1)) := HNEXT.out (hit_off fun hh => hL hh.1)
        clear HNEXT HSOME
        go_wp2
        go_quiet (fail)
        go_wp2
        go_roundw
        case rel => exact ⟨k + 1, by omega, by go_num, HN2, hB.trans ((hd _).mono hwz), hp'.below (hd _) (by omega), hx'.below (hd _) (by omega), by simpa using hs⟩
        case measure => simp [intOf]; omega
    · have hke : k = rows.length := by omega
      subst hke
      have HE : Hid (findIx rows (px, py, pl) = none) := find_none hno.out
      clear hno
      go_wp2
      exact bodyPost_ret (v := .tuple #[.string ⟨#[]⟩, .bool false]) (by simp [results, Try.results6, go_sem]) rfl ⟨by rw [HE.out]; rfl, hB⟩

end Go.Proofs.Ythbjofobilfbpaa
