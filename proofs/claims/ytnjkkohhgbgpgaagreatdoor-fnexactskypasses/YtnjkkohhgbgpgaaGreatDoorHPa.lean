import Derived.Test.YtnjkkohhgbgpgaaGreatDoorSkySA
import Derived.Test.YtnjkkohhgbgpgaaGreatDoorIV0
import Derived.Test.YtnjkkohhgbgpgaaGreatDoorVw1
import Derived.RegionTactic
import Derived.Lib.QuietBelow
import Derived.BigQuiet

/- DERIVED. A place within a block (impl.skyInBlock, spec.l5In); the sector of a place on plain data. -/
namespace Go.Proofs.YtnjkkohhgbgpgaaGreatDoor
open Go.RowKit
set_option linter.unusedSimpArgs false
set_option linter.unusedVariables false

/-- A place: X, Y, level. -/
abbrev DPlace := Int × Int × Int
def vPl (p : DPlace) : Value := .agg #[.int .i64 p.1, .int .i64 p.2.1, .int .i64 p.2.2]
def vBlk (b : DSkyBlock) : Value := .agg #[.int .i64 b.1, .int .i64 b.2.1, .int .i64 b.2.2.1, .int .i64 b.2.2.2.1, .int .i64 b.2.2.2.2.1, .int .i64 b.2.2.2.2.2]
instance (n lo hi : Int) : Decidable (InR n lo hi) := by unfold InR; infer_instance
def inB (b : DSkyBlock) (p : DPlace) : Bool := decide (InR p.1 b.1 b.2.2.1) && (decide (InR p.2.1 b.2.1 b.2.2.2.1) && decide (InR p.2.2 b.2.2.2.2.1 b.2.2.2.2.2))

theorem ifrom_b (n lo hi : Int) (w : World) (v : Bool) (h : decide (InR n lo hi) = v) :
    Calls Tryz.prog 102 #[.int .i64 n, .int .i64 lo, .int .i64 hi] w fun e w' => e = .returned (.bool v) ∧ w = w' := by
  subst h
  by_cases h : InR n lo hi
  · rw [decide_eq_true h]; exact from_yes n lo hi w h
  · rw [decide_eq_false h]; exact from_no n lo hi w h
theorem sin_b (n lo hi : Int) (w : World) (v : Bool) (h : decide (InR n lo hi) = v) :
    Calls Tryz.prog 63 #[.int .i64 n, .int .i64 lo, .int .i64 hi] w fun e w' => e = .returned (.bool v) ∧ w = w' := by
  subst h
  by_cases h : InR n lo hi
  · rw [decide_eq_true h]; exact (in_yes n lo hi w h).mono fun e w' ⟨a, b⟩ => ⟨a, b.symm⟩
  · rw [decide_eq_false h]; exact (in_no n lo hi w h).mono fun e w' ⟨a, b⟩ => ⟨a, b.symm⟩

set_option maxHeartbeats 1000000 in
theorem iInB (b : DSkyBlock) (p : DPlace) (w : World) :
    Calls Tryz.prog 91 #[vBlk b, vPl p] w fun e w' => e = .returned (.bool (inB b p)) ∧ Below w.heap.size w w' := by
  obtain ⟨x0, y0, x1, y1, lo, hi⟩ := b
  obtain ⟨x, y, l⟩ := p
  simp only [vBlk, vPl, inB]
  have HB : Below w.heap.size w ((w.alloc (.cells #[.int .i64 x0, .int .i64 y0, .int .i64 x1, .int .i64 y1, .int .i64 lo, .int .i64 hi] 140)).alloc (.cells #[.int .i64 x, .int .i64 y, .int .i64 l] 91)) := ((Below.refl _ _).alloc (Nat.le_refl _) _).alloc (by simp) _
  have H1 := fun w => ifrom_b x x0 x1 w _ rfl
  have H2 := fun w => ifrom_b y y0 y1 w _ rfl
  have H3 := fun w => ifrom_b l lo hi w _ rfl
  generalize decide (InR x x0 x1) = v1 at *
  generalize decide (InR y y0 y1) = v2 at *
  generalize decide (InR l lo hi) = v3 at *
  cases v1
  · go_enter Tryz.func91, Tryz.ntmps91
    go_wp2_with fail
    refine (H1 _).mono ?_
    rintro e w' ⟨rfl, rfl⟩
    go_wp2
    go_ret
    exact ⟨rfl, HB⟩
  · cases v2
    · go_enter Tryz.func91, Tryz.ntmps91
      go_wp2_with fail
      refine (H1 _).mono ?_
      rintro e w' ⟨rfl, rfl⟩
      clear H1
      go_wp2_with fail
      refine (H2 _).mono ?_
      rintro e w' ⟨rfl, rfl⟩
      go_wp2
      go_ret
      exact ⟨rfl, HB⟩
    · go_enter Tryz.func91, Tryz.ntmps91
      go_wp2_with fail
      refine (H1 _).mono ?_
      rintro e w' ⟨rfl, rfl⟩
      clear H1
      go_wp2_with fail
      refine (H2 _).mono ?_
      rintro e w' ⟨rfl, rfl⟩
      clear H2
      go_wp2_with fail
      refine (H3 _).mono ?_
      rintro e w' ⟨rfl, rfl⟩
      go_wp2
      go_ret
      exact ⟨rfl, HB⟩

set_option maxHeartbeats 1000000 in
theorem sInB (b : DSkyBlock) (p : DPlace) (w : World) :
    Calls Tryz.prog 88 #[vBlk b, vPl p] w fun e w' => e = .returned (.bool (inB b p)) ∧ Below w.heap.size w w' := by
  obtain ⟨x0, y0, x1, y1, lo, hi⟩ := b
  obtain ⟨x, y, l⟩ := p
  simp only [vBlk, vPl, inB]
  have HB : Below w.heap.size w ((w.alloc (.cells #[.int .i64 x0, .int .i64 y0, .int .i64 x1, .int .i64 y1, .int .i64 lo, .int .i64 hi] 140)).alloc (.cells #[.int .i64 x, .int .i64 y, .int .i64 l] 91)) := ((Below.refl _ _).alloc (Nat.le_refl _) _).alloc (by simp) _
  have H1 := fun w => sin_b x x0 x1 w _ rfl
  have H2 := fun w => sin_b y y0 y1 w _ rfl
  have H3 := fun w => sin_b l lo hi w _ rfl
  generalize decide (InR x x0 x1) = v1 at *
  generalize decide (InR y y0 y1) = v2 at *
  generalize decide (InR l lo hi) = v3 at *
  cases v1
  · go_enter Tryz.func88, Tryz.ntmps88
    go_wp2_with fail
    refine (H1 _).mono ?_
    rintro e w' ⟨rfl, rfl⟩
    go_wp2
    go_ret
    exact ⟨rfl, HB⟩
  · cases v2
    · go_enter Tryz.func88, Tryz.ntmps88
      go_wp2_with fail
      refine (H1 _).mono ?_
      rintro e w' ⟨rfl, rfl⟩
      clear H1
      go_wp2_with fail
      refine (H2 _).mono ?_
      rintro e w' ⟨rfl, rfl⟩
      go_wp2
      go_ret
      exact ⟨rfl, HB⟩
    · go_enter Tryz.func88, Tryz.ntmps88
      go_wp2_with fail
      refine (H1 _).mono ?_
      rintro e w' ⟨rfl, rfl⟩
      clear H1
      go_wp2_with fail
      refine (H2 _).mono ?_
      rintro e w' ⟨rfl, rfl⟩
      clear H2
      go_wp2_with fail
      refine (H3 _).mono ?_
      rintro e w' ⟨rfl, rfl⟩
      go_wp2
      go_ret
      exact ⟨rfl, HB⟩

/-- The first sector in which a place lies. -/
def whereOf (ss : List DSkySector) (p : DPlace) : Option ByteArray := (ss.find? fun s => s.2.any fun b => inB b p).map fun s => s.1
def whereV : Option ByteArray → Value
  | none => .tuple #[.string ⟨#[]⟩, .bool false]
  | some n => .tuple #[.string n, .bool true]
/-- The first k sectors have no such place. -/
def NoSec (ss : List DSkySector) (p : DPlace) (k : Nat) : Prop := ∀ j (h : j < ss.length), j < k → ((ss[j]'h).2.any fun b => inB b p) = false
def NoBlk (bs : List DSkyBlock) (p : DPlace) (k : Nat) : Prop := ∀ j (h : j < bs.length), j < k → inB (bs[j]'h) p = false
theorem noBlk_all {bs : List DSkyBlock} {p : DPlace} (h : NoBlk bs p bs.length) : (bs.any fun b => inB b p) = false := by
  rw [List.any_eq_false]
  intro b hb
  obtain ⟨i, hi, rfl⟩ := List.getElem_of_mem hb
  rw [h i hi hi]
  simp
theorem where_none {ss : List DSkySector} {p : DPlace} (h : NoSec ss p ss.length) : whereOf ss p = none := by
  unfold whereOf
  rw [List.find?_eq_none.2 ?_]
  · rfl
  · intro s hs
    obtain ⟨i, hi, rfl⟩ := List.getElem_of_mem hs
    rw [h i hi hi]
    simp
theorem where_some {ss : List DSkySector} {p : DPlace} {k m : Nat} (hk : k < ss.length) (h : NoSec ss p k) (hm : m < (ss[k]'hk).2.length) (hb : inB ((ss[k]'hk).2[m]'hm) p = true) : whereOf ss p = some (ss[k]'hk).1 := by
  unfold whereOf
  rw [(List.find?_eq_some_iff_getElem (b := ss[k]'hk)).2 ?_]
  · rfl
  · refine ⟨List.any_eq_true.2 ⟨_, List.getElem_mem hm, hb⟩, k, hk, rfl, fun j hj => ?_⟩
    rw [h j (by omega) hj]
    rfl

end Go.Proofs.YtnjkkohhgbgpgaaGreatDoor

/- DERIVED. impl.skySectorOf: its walk. -/
namespace Go.Proofs.YtnjkkohhgbgpgaaGreatDoor
open Go.RowKit
set_option linter.unusedSimpArgs false
set_option linter.unusedVariables false

/-- The box of a place. -/
def PlC (b : Nat) (p : DPlace) (W : World) : Prop := W.cell? ⟨b, 0, none⟩ = some (.int .i64 p.1) ∧ W.cell? ⟨b, 1, none⟩ = some (.int .i64 p.2.1) ∧ W.cell? ⟨b, 2, none⟩ = some (.int .i64 p.2.2)
theorem PlC.below {b m : Nat} {p : DPlace} {w w' : World} (h : PlC b p w) (hb : Below m w w') (hn : b < m) : PlC b p w' := by
  obtain ⟨h0, h1, h2⟩ := h
  exact ⟨(hb.cell (p := ⟨b, 0, none⟩) hn).trans h0, (hb.cell (p := ⟨b, 1, none⟩) hn).trans h1, (hb.cell (p := ⟨b, 2, none⟩) hn).trans h2⟩

set_option maxHeartbeats 1000000 in
theorem whereFn (nm : ByteArray) (b : DSkyBlock) (p : DPlace) (bp : Nat) (w : World) (hp : PlC bp p w) (hbp : bp < w.heap.size) :
    Calls Tryz.prog 90 #[.string nm, vBlk b, .pointer (some ⟨bp, 0, none⟩)] w fun e w' => e = .returned (.tuple #[.string nm, .bool (inB b p)]) ∧ Below w.heap.size w w' := by
  have HI := fun W => iInB b p W
  generalize inB b p = v at *
  obtain ⟨x0, y0, x1, y1, lo, hi⟩ := b
  obtain ⟨x, y, l⟩ := p
  have hp1 := hp.below ((Below.refl w.heap.size w).alloc (Nat.le_refl _) (.cells #[.int .i64 x0, .int .i64 y0, .int .i64 x1, .int .i64 y1, .int .i64 lo, .int .i64 hi] 140)) hbp
  obtain ⟨c0, c1, c2⟩ := hp1
  simp only [vBlk, vPl] at *
  go_enter Tryz.func90, Tryz.ntmps90
  go_wp2_with fail
  refine (HI _).mono ?_
  rintro e w1 ⟨rfl, hb1⟩
  go_wp2
  exact bodyPost_ret (v := .tuple #[.string nm, .bool v]) (by simp [results, Tryz.results90, go_sem]) rfl ⟨rfl, ((Below.refl w.heap.size w).alloc (Nat.le_refl _) _).trans (hb1.mono (by simp))⟩

set_option maxRecDepth 100000 in
set_option maxHeartbeats 2000000 in
theorem firstWhere (ao : Option Addr) (cap : Nat) (ss : List DSkySector) (p : DPlace) (bp : Nat) (w : World) (h : SliceAt vSkySector (old w) w ao cap ss) (hp : PlC bp p w) (hbp : bp < w.heap.size) :
    Calls Tryz.prog 89 #[.slice ao ss.length cap, .func (.func 90) #[] #[.pointer (some ⟨bp, 0, none⟩)]] w fun e w' => e = .returned (whereV (whereOf ss p)) ∧ Below w.heap.size w w' := by
  have hlen : ss.length ≤ maxLen := Nat.le_trans h.1 h.2.1
  unfold maxLen at hlen
  go_enter Tryz.func89, Tryz.ntmps89
  go_wp2
  go_loopw [15] (fun i wr => ∃ k : Nat, k ≤ ss.length ∧ i = .int .i64 k ∧ Hid (NoSec ss p k) ∧ Below w.heap.size w wr) (fun i _ => ss.length - (intOf i).toNat)
  case atStart => exact ⟨0, Nat.zero_le _, rfl, fun j _ hj => by omega, Below.refl _ _⟩
  case round =>
    obtain ⟨k, hk, rfl, hno, hB⟩ := hrel
    have hwz := hB.size
    by_cases hlt : k < ss.length
    · obtain ⟨b1, off, ao1, cap1, rfl, hok, c0, c1, q0, p1⟩ := elem_SkySector h hlt
      have f0 := (hB.cell (p := ⟨b1, off + k * 2, none⟩) hok).trans c0
      have f1 := (hB.cell (p := ⟨b1, off + k * 2 + 1, none⟩) hok).trans c1
      have hkI : (k : Int) < (ss.length : Int) := by omega
      have HSOME : Hid (∀ m (hm : m < (ss[k]'hlt).2.length), inB ((ss[k]'hlt).2[m]'hm) p = true → whereOf ss p = some (ss[k]'hlt).1) := fun m hm hb => where_some hlt hno.out hm hb
      have HNEXT : Hid (NoBlk (ss[k]'hlt).2 p (ss[k]'hlt).2.length → NoSec ss p (k + 1)) := fun h1 j hj h2 => by
        by_cases e : j = k
        · subst e; exact noBlk_all h1
        · exact hno.out j hj (by omega)
      have hlen1 : (ss[k]'hlt).2.length ≤ 9223372036854775807 := Nat.le_trans p1.1 p1.2.1
      generalize ss[k]'hlt = sk at *
      obtain ⟨nm, bs⟩ := sk
      simp only at f0 f1 p1 HSOME HNEXT q0 hlen1
      clear c0 c1 hno
      obtain ⟨wo, hwo⟩ : ∃ x, x = wr := ⟨_, rfl⟩
      subst hwo
      go_wp2
      go_loopw [22] (fun i wr => ∃ m : Nat, m ≤ bs.length ∧ i = .int .i64 m ∧ Hid (NoBlk bs p m) ∧ Below w.heap.size w wr ∧ wr.cell? ⟨wo.heap.size, 0, none⟩ = some (.string nm) ∧ wo.heap.size < wr.heap.size) (fun i _ => bs.length - (intOf i).toNat)
      case atStart => exact ⟨0, Nat.zero_le _, rfl, fun j _ hj => by omega, hB.alloc (by omega) _, by go_simp, by simp⟩
      case round =>
        obtain ⟨m, hm, rfl, hnb, hB2, hnm, hxs⟩ := hrel
        have hwz2 := hB2.size
        by_cases hltm : m < bs.length
        · obtain ⟨b2, off2, rfl, hok2, d0, d1, d2, d3, d4, d5, _, _, _, _, _, _⟩ := elem_SkyBlock p1 hltm
          have g0 := (hB2.cell (p := ⟨b2, off2 + m * 6, none⟩) hok2).trans d0
          have g1 := (hB2.cell (p := ⟨b2, off2 + m * 6 + 1, none⟩) hok2).trans d1
          have g2 := (hB2.cell (p := ⟨b2, off2 + m * 6 + 2, none⟩) hok2).trans d2
          have g3 := (hB2.cell (p := ⟨b2, off2 + m * 6 + 3, none⟩) hok2).trans d3
          have g4 := (hB2.cell (p := ⟨b2, off2 + m * 6 + 4, none⟩) hok2).trans d4
          have g5 := (hB2.cell (p := ⟨b2, off2 + m * 6 + 5, none⟩) hok2).trans d5
          have hmI : (m : Int) < (bs.length : Int) := by omega
          have HH : Hid (inB (bs[m]'hltm) p = true → whereOf ss p = some nm) := HSOME.out m hltm
          have HN : Hid (inB (bs[m]'hltm) p = false → NoBlk bs p (m + 1)) := fun hf j hj h2 => by
            by_cases e : j = m
            · subst e; exact hf
            · exact hnb.out j hj (by omega)
          generalize bs[m]'hltm = bk at *
          obtain ⟨x0, y0, x1, y1, lo, hi⟩ := bk
          simp only at g0 g1 g2 g3 g4 g5
          have hbx : Below w.heap.size w (wr.alloc (.cells #[.int .i64 x0, .int .i64 y0, .int .i64 x1, .int .i64 y1, .int .i64 lo, .int .i64 hi] 140)) := hB2.alloc (by omega) _
          have HF := whereFn nm (x0, y0, x1, y1, lo, hi) p bp _ (hp.below hbx hbp) (by have := hbx.size; omega)
          generalize inB (x0, y0, x1, y1, lo, hi) p = v at *
          simp only [vBlk] at HF
          clear d0 d1 d2 d3 d4 d5 hnb
          go_wp2_with fail
          refine HF.mono ?_
          rintro e w3 ⟨rfl, hb3⟩
          have hB3 := hbx.trans (hb3.mono (by simp; omega))
          have hnm3 : w3.cell? ⟨wo.heap.size, 0, none⟩ = some (.string nm) := (hb3.cell (p := ⟨wo.heap.size, 0, none⟩) (by simp; omega)).trans (by go_simp)
          have hs3 : wo.heap.size < w3.heap.size := by have := hb3.size; simp at this; omega
          clear HF hb3 hbx g0 g1 g2 g3 g4 g5
          cases v
          · have HN2 : Hid (NoBlk bs p (m + 1)) := HN.out rfl
            clear HN HH
            go_wp2
            go_roundw
            case rel => exact ⟨m + 1, by omega, by go_num, HN2, hB3, hnm3, hs3⟩
            case measure => simp [intOf]; omega
          · have HH2 : Hid (whereOf ss p = some nm) := HH.out rfl
            clear HN HH
            go_wp2
            exact bodyPost_ret (v := .tuple #[.string nm, .bool true]) (by simp [results, Tryz.results89, go_sem]) rfl ⟨by rw [HH2.out]; rfl, hB3⟩
        · have hme : m = bs.length := by omega
          subst hme
          have HN2 : Hid (NoSec ss p (k + 1)) := HNEXT.out hnb.out
          clear hnb HNEXT HSOME
          go_wp2
          go_roundw
          case rel => exact ⟨k + 1, by omega, by go_num, HN2, hB2⟩
          case measure => simp [intOf]; omega
    · have hke : k = ss.length := by omega
      subst hke
      have HE : Hid (whereOf ss p = none) := where_none hno.out
      clear hno
      go_wp2
      exact bodyPost_ret (v := .tuple #[.string ⟨#[]⟩, .bool false]) (by simp [results, Tryz.results89, go_sem]) rfl ⟨by rw [HE.out]; rfl, hB⟩

noncomputable def validB (x : DSky) : Bool := @decide (ValidSky x) (Classical.propDecidable _)
theorem validB_iff {x : DSky} : validB x = true ↔ ValidSky x := by unfold validB; simp
theorem validB_of {x : DSky} {e : Ending} (h : (ValidSky x ∧ e = .returned (.bool true)) ∨ (¬ ValidSky x ∧ e = .returned (.bool false))) : e = .returned (.bool (validB x)) := by
  rcases h with ⟨h1, h2⟩ | ⟨h1, h2⟩
  · rw [h2, validB_iff.2 h1]
  · have : validB x = false := by
      cases hb : validB x
      · rfl
      · exact absurd (validB_iff.1 hb) h1
    rw [h2, this]

set_option maxRecDepth 100000 in
set_option maxHeartbeats 2000000 in
theorem iSectorOf (W H L : Int) (ss : List DSkySector) (v3 v4 v6 : Value) (ao5 : Option Addr) (cap5 : Nat) (p : DPlace) (w : World) (h : SliceAt vSkySector (old w) w ao5 cap5 ss) :
    Calls Tryz.prog 56 #[.agg #[.int .i64 W, .int .i64 H, .int .i64 L, v3, v4, .slice ao5 ss.length cap5, v6], vPl p] w fun e w' => e = .returned (whereV (whereOf ss p)) ∧ Below w.heap.size w w' := by
  obtain ⟨px, py, pl⟩ := p
  obtain ⟨w0, hw0⟩ : ∃ w0, w0 = (w.alloc (.cells #[.int .i64 W, .int .i64 H, .int .i64 L, v3, v4, .slice ao5 ss.length cap5, v6] 39)).alloc (.cells #[.int .i64 px, .int .i64 py, .int .i64 pl] 91) := ⟨_, rfl⟩
  have hb0 : Below w.heap.size w w0 := by rw [hw0]; exact ((Below.refl _ _).alloc (Nat.le_refl _) _).alloc (by simp) _
  have hp0 : PlC (w.heap.size + 1) (px, py, pl) w0 := by rw [hw0]; exact ⟨by go_simp, by go_simp, by go_simp⟩
  have hsz : w0.heap.size = w.heap.size + 2 := by rw [hw0]; simp
  have HF := firstWhere ao5 cap5 ss (px, py, pl) (w.heap.size + 1) w0 (h.later hb0) hp0 (by omega)
  rw [hw0] at HF
  generalize whereOf ss (px, py, pl) = r at *
  simp only [vPl]
  go_enter Tryz.func56, Tryz.ntmps56
  go_wp2_with fail
  refine HF.mono ?_
  rw [← hw0]
  rintro e w2 ⟨rfl, hb2⟩
  have hB2 := hb0.trans (hb2.mono (by omega))
  clear HF hb2 hw0
  cases r with
  | none =>
    simp only [whereV]
    go_wp2
    exact bodyPost_ret (v := .tuple #[.string ⟨#[]⟩, .bool false]) (by simp [results, Tryz.results56, go_sem]) rfl ⟨rfl, hB2⟩
  | some n =>
    simp only [whereV]
    go_wp2
    exact bodyPost_ret (v := .tuple #[.string n, .bool true]) (by simp [results, Tryz.results56, go_sem]) rfl ⟨rfl, hB2⟩

end Go.Proofs.YtnjkkohhgbgpgaaGreatDoor

/- DERIVED. A region that draws its order and lays blocks: what reads the same in every world of a class is taken first. -/
namespace Go.Proofs.YtnjkkohhgbgpgaaGreatDoor
open Go.RowKit
set_option linter.unusedSimpArgs false
set_option linter.unusedVariables false

section
variable {P : Program} {ops : Array Oper} {md : Region.Mode} {Q : Exit → Act → World → Prop} {C : World → Prop}

/-- Every order of the region goes well, and every world on the way is of the class. -/
def wpAnyC (P : Program) (md : Region.Mode) (ops : Array Oper) (C : World → Prop) (Q : Exit → Act → World → Prop) : Nat → Array Bool → Act → World → Prop
  | 0, listed, a, w => Region.ready md ops listed = [] ∧ Q .normal a w
  | n + 1, listed, a, w => (Region.ready md ops listed = [] → Q .normal a w) ∧ ∀ i ∈ Region.ready md ops listed, wpOp P ops Q i (fun a' w' => C w' ∧ wpAnyC P md ops C Q n (listed.setIfInBounds i true) a' w') a w

theorem wpAny_of_C : ∀ (n : Nat) (listed : Array Bool) (a : Act) (w : World), wpAnyC P md ops C Q n listed a w → wpAny P md ops Q n listed a w
  | 0, _, _, _, h => h
  | n + 1, listed, a, w, h => ⟨h.1, fun i hi => wpOp_mono (fun a' w' h' => wpAny_of_C n _ a' w' h'.2) (h.2 i hi)⟩

/-- An operation that yields v in every world of the class. -/
def YC (P : Program) (ops : Array Oper) (C : World → Prop) (o : Oper) (v : Value) (a : Act) : Prop :=
  (Region.wanted o (yielded ops a.tmps) = true ∧ ∀ w, C w → (execOp a.eval o).run P w = .ok (.value v) w) ∨ (Region.wanted o (yielded ops a.tmps) = false ∧ v = undef)

theorem YC.step {i : Nat} {o : Oper} {v : Value} {a : Act} (hi : ops[i]? = some o) (hy : YC P ops C o v a) {K : Act → World → Prop} {w : World} (hC : C w) (h : K (a.put o.dst v) w) : wpOp P ops Q i K a w := by
  unfold wpOp
  simp only [hi]
  rcases hy with ⟨h1, h2⟩ | ⟨h1, rfl⟩
  · simp only [h1, if_true, Oper.wp, h2 w hC, Oper.upon]
    exact .inl h
  · simp only [h1, Bool.false_eq_true, if_false]
    exact h

theorem YC.same {o : Oper} {v : Value} {a a' : Act} (hy : YC P ops C o v a) (he : execOp a'.eval o = execOp a.eval o) (hw : Region.wanted o (yielded ops a'.tmps) = Region.wanted o (yielded ops a.tmps)) : YC P ops C o v a' := by
  unfold YC at *
  rw [he, hw]
  exact hy

theorem wpOp_putC {j : Nat} {oi oj : Oper} {v : Value} (hj : ops[j]? = some oj) (hap : oi.apart ops oj = true) (hsi : ∀ cs b, oi.op ≠ .select cs b) (hsj : ∀ cs b, oj.op ≠ .select cs b)
    (hQ : ∀ c a w, Q (.panic c) (a.put oi.dst v) w → Q (.panic c) a w) {K : Act → World → Prop} {a : Act} {w : World} (hy : YC P ops C oi v a) (h : wpOp P ops Q j K (a.put oi.dst v) w) :
    wpOp P ops Q j (fun a' w' => YC P ops C oi v a' ∧ K (a'.put oi.dst v) w') a w := by
  obtain ⟨p1, p2, p3⟩ := Oper.apart_spec hap
  have kp : ∀ (a : Act), YC P ops C oi v a → ∀ u, YC P ops C oi v (a.put oj.dst u) := fun a hy u => hy.same (execOp_put oi hsi a oj.dst u p3) (wanted_put oi a oj.dst u p3)
  have kd : ∀ d, YC P ops C oi v { a with defers := d :: a.defers } := fun d => hy.same rfl rfl
  unfold wpOp at *
  simp only [hj] at *
  rw [wanted_put oj a oi.dst v p1] at h
  split
  · rename_i hw
    simp only [hw, if_true] at h
    rcases h with h | ⟨h4, h5⟩
    case inr => exact .inr ⟨by unfold Oper.asks at *; rw [execOp_put oj hsj a oi.dst v p1] at h4; exact h4, h5⟩
    refine .inl ?_
    unfold Oper.wp at *
    rw [execOp_put oj hsj a oi.dst v p1] at h
    generalize (execOp a.eval oj).run P w = r at *
    cases r with
    | ok n w' =>
      cases n <;> simp only [Oper.upon] at h ⊢
      case value u => exact ⟨kp a hy u, by rw [← Act.put_comm a v u p2]; exact h⟩
      case skip => exact ⟨kp a hy _, by rw [← Act.put_comm a v undef p2]; exact h⟩
      case defer d =>
        refine ⟨kp _ (kd d) _, ?_⟩
        rw [← Act.put_comm _ v undef p2, ← Act.put_defers]
        exact h
      case enter f args =>
        refine Calls.mono h fun e w'' he => ?_
        cases e with
        | returned u => exact ⟨kp a hy u, by rw [← Act.put_comm a v u p2]; exact he⟩
        | panicked c => exact hQ _ _ _ he
        | outgrown => exact he
      case row row args => exact Rows.mono h fun u w'' he => ⟨kp a hy u, by rw [← Act.put_comm a v u p2]; exact he⟩
    | halt x w' =>
      cases x <;> simp only [Oper.upon] at h ⊢
      case panic u => exact hQ _ _ _ h
  · rename_i hw
    simp only [hw] at h
    exact ⟨kp a hy _, by rw [← Act.put_comm a v undef p2]; exact h⟩

theorem wpAnyC_first {i : Nat} {oi : Oper} {v : Value} (hi : ops[i]? = some oi) (hsel : ∀ (j : Nat) (o : Oper) cs b, ops[j]? = some o → o.op ≠ .select cs b)
    (hQ : ∀ c a w, Q (.panic c) (a.put oi.dst v) w → Q (.panic c) a w) :
    ∀ (n : Nat) (listed : Array Bool) (a : Act) (w : World),
      (∀ j oj, ops[j]? = some oj → j ≠ i → listed.getD j true = false → (∀ e ∈ oj.after, Region.binds md e = true → e.on ≠ i) → oi.apart ops oj = true) →
      i ∈ Region.ready md ops listed → YC P ops C oi v a → C w →
      wpAnyC P md ops C Q n (listed.setIfInBounds i true) (a.put oi.dst v) w → wpAnyC P md ops C Q (n + 1) listed a w := by
  intro n
  induction n with
  | zero =>
    intro listed a w _ hr hy hC H
    refine ⟨fun h => (by rw [h] at hr; cases hr), fun j hj => ?_⟩
    by_cases hji : j = i
    · subst hji; exact hy.step hi hC ⟨hC, H⟩
    · have := ready_mono hj hji
      rw [H.1] at this
      cases this
  | succ n ih =>
    intro listed a w hfree hr hy hC H
    refine ⟨fun h => (by rw [h] at hr; cases hr), fun j hj => ?_⟩
    by_cases hji : j = i
    · subst hji; exact hy.step hi hC ⟨hC, H⟩
    · have h1 := H.2 j (ready_mono hj hji)
      obtain ⟨hjun, oj, hoj, hall⟩ := mem_ready.1 hj
      have hnot : ∀ e ∈ oj.after, Region.binds md e = true → e.on ≠ i := fun e he hb heq => by
        have h1 := hall e he hb
        have h0 := (mem_ready.1 hr).1
        rw [heq] at h1
        rcases Nat.lt_or_ge i listed.size with h' | h'
        · simp [h'] at h0 h1; rw [h0] at h1; cases h1
        · simp [Array.getElem?_eq_none h'] at h1
      have h2 := wpOp_putC hoj (hfree j oj hoj hji hjun hnot) (fun cs b => hsel i oi cs b hi) (fun cs b => hsel j oj cs b hoj) hQ hy h1
      have hfree' : ∀ k ok, ops[k]? = some ok → k ≠ i → (listed.setIfInBounds j true).getD k true = false → (∀ e ∈ ok.after, Region.binds md e = true → e.on ≠ i) → oi.apart ops ok = true := fun k ok hk hki hun hno => by
        refine hfree k ok hk hki ?_ hno
        by_cases hjk : j = k
        · subst hjk; exact hjun
        · rw [getD_set_ne true hjk] at hun; exact hun
      refine wpOp_mono (fun a' w' h3 => ⟨h3.2.1, ih (listed.setIfInBounds j true) a' w' hfree' (ready_mono hr (Ne.symm hji)) h3.1 h3.2.1 ?_⟩) h2
      rw [Array.setIfInBounds_comm _ _ hji]
      exact h3.2.2

/-- A region's state, behind a structure (so that nothing runs down it). -/
structure RC (P : Program) (md : Region.Mode) (ops : Array Oper) (C : World → Prop) (Q : Exit → Act → World → Prop) (n : Nat) (listed : Array Bool) (a : Act) (w : World) : Prop where
  out : wpAnyC P md ops C Q n listed a w

theorem RC.take {i : Nat} {oi : Oper} {v : Value} {n : Nat} {listed : Array Bool} {a : Act} {w : World} (hi : ops[i]? = some oi) (hs : Region.noSelect ops = true) (hf : Region.free md ops listed i = true) (hr : (Region.ready md ops listed).contains i = true)
    (hQ : ∀ c a w, Q (.panic c) (a.put oi.dst v) w → Q (.panic c) a w) (hC : C w) (hw : Region.wanted oi (yielded ops a.tmps) = true) (hy : ∀ w, C w → (execOp a.eval oi).run P w = .ok (.value v) w)
    (h : RC P md ops C Q n (listed.setIfInBounds i true) (a.put oi.dst v) w) : RC P md ops C Q (n + 1) listed a w :=
  ⟨wpAnyC_first hi (Region.noSelect_spec hs) hQ n listed a w (Region.free_spec hi hf) (by simpa using hr) (.inl ⟨hw, hy⟩) hC h.out⟩

theorem RC.one {i : Nat} {o : Oper} {n : Nat} {listed : Array Bool} {a : Act} {w : World} (hr : Region.ready md ops listed = [i]) (ho : ops[i]? = some o)
    (h : ∀ K' : Act → World → Prop, (∀ a w, C w → RC P md ops C Q n (listed.setIfInBounds i true) a w → K' a w) → if Region.wanted o (yielded ops a.tmps) = true then Oper.wp P o a w K' Q else K' (a.put o.dst undef) w) : RC P md ops C Q (n + 1) listed a w := by
  refine ⟨⟨fun h0 => absurd (hr.symm.trans h0) (by simp), fun j hj => ?_⟩⟩
  rw [hr] at hj
  obtain rfl : j = i := by simpa using hj
  exact wpOp_step ho fun K' hK => h K' fun a w h1 h2 => hK a w ⟨h1, h2.out⟩

theorem RC.two {i k : Nat} {o p : Oper} {n : Nat} {listed : Array Bool} {a : Act} {w : World} (hr : Region.ready md ops listed = [i, k]) (ho : ops[i]? = some o) (hp : ops[k]? = some p)
    (h : ∀ K' : Act → World → Prop, (∀ a w, C w → RC P md ops C Q n (listed.setIfInBounds i true) a w → K' a w) → if Region.wanted o (yielded ops a.tmps) = true then Oper.wp P o a w K' Q else K' (a.put o.dst undef) w)
    (h' : ∀ K' : Act → World → Prop, (∀ a w, C w → RC P md ops C Q n (listed.setIfInBounds k true) a w → K' a w) → if Region.wanted p (yielded ops a.tmps) = true then Oper.wp P p a w K' Q else K' (a.put p.dst undef) w) : RC P md ops C Q (n + 1) listed a w := by
  refine ⟨⟨fun h0 => absurd (hr.symm.trans h0) (by simp), fun j hj => ?_⟩⟩
  rw [hr] at hj
  have hj' : j = i ∨ j = k := by simpa using hj
  rcases hj' with rfl | rfl
  · exact wpOp_step ho fun K' hK => h K' fun a w h1 h2 => hK a w ⟨h1, h2.out⟩
  · exact wpOp_step hp fun K' hK => h' K' fun a w h1 h2 => hK a w ⟨h1, h2.out⟩

theorem RC.want {i : Nat} {o : Oper} {n : Nat} {listed : Array Bool} {a : Act} {w : World} (hr : Region.ready md ops listed = [i]) (ho : ops[i]? = some o) (hw : Region.wanted o (yielded ops a.tmps) = true)
    (h : ∀ K' : Act → World → Prop, (∀ a w, C w → RC P md ops C Q n (listed.setIfInBounds i true) a w → K' a w) → Oper.wp P o a w K' Q) : RC P md ops C Q (n + 1) listed a w :=
  RC.one hr ho fun K' hK => by rw [if_pos hw]; exact h K' hK

theorem RC.done {listed : Array Bool} {a : Act} {w : World} (hr : Region.ready md ops listed = []) (h : Q .normal a w) : RC P md ops C Q 0 listed a w := ⟨⟨hr, h⟩⟩

theorem wp_region_RC (C : World → Prop) {id : Nat} {a : Act} {w : World} (hm : P.follows .mixedOrders = true) (h : RC P .any ops C Q ops.size (Array.replicate ops.size false) a w.drew) : (Code.region id ops true).wp P Q a w :=
  wp_region_any hm (wpAny_of_C _ _ _ _ h.out)

end
end Go.Proofs.YtnjkkohhgbgpgaaGreatDoor

/- DERIVED. spec.l5Where: its walk (Wh3's first half). -/
namespace Go.Proofs.YtnjkkohhgbgpgaaGreatDoor
open Go.RowKit
set_option linter.unusedSimpArgs false
set_option linter.unusedVariables false

/-- The cells that the region reads. -/
def WhC (b b1 o1 b2 o2 : Nat) (v5 v1 : Value) (x0 y0 x1 y1 lo hi px py pl : Int) (W : World) : Prop :=
  W.cell? ⟨b, 5, none⟩ = some v5 ∧ W.cell? ⟨b1, o1, none⟩ = some v1 ∧ W.cell? ⟨b2, o2, none⟩ = some (.int .i64 x0) ∧ W.cell? ⟨b2, o2 + 1, none⟩ = some (.int .i64 y0) ∧ W.cell? ⟨b2, o2 + 2, none⟩ = some (.int .i64 x1) ∧ W.cell? ⟨b2, o2 + 3, none⟩ = some (.int .i64 y1) ∧ W.cell? ⟨b2, o2 + 4, none⟩ = some (.int .i64 lo) ∧ W.cell? ⟨b2, o2 + 5, none⟩ = some (.int .i64 hi) ∧ W.cell? ⟨b + 1, 0, none⟩ = some (.int .i64 px) ∧ W.cell? ⟨b + 1, 1, none⟩ = some (.int .i64 py) ∧ W.cell? ⟨b + 1, 2, none⟩ = some (.int .i64 pl)
theorem WhC.below {b b1 o1 b2 o2 n : Nat} {v5 v1 : Value} {x0 y0 x1 y1 lo hi px py pl : Int} {w w' : World} (h : WhC b b1 o1 b2 o2 v5 v1 x0 y0 x1 y1 lo hi px py pl w) (hb : Below n w w') (h0 : b + 1 < n) (h1 : b1 < n) (h2 : b2 < n) : WhC b b1 o1 b2 o2 v5 v1 x0 y0 x1 y1 lo hi px py pl w' := by
  obtain ⟨c0, c1, c2, c3, c4, c5, c6, c7, c8, c9, c10⟩ := h
  have hb' : b < n := by omega
  exact ⟨(hb.cell (p := ⟨b, 5, none⟩) hb').trans c0, (hb.cell (p := ⟨b1, o1, none⟩) h1).trans c1, (hb.cell (p := ⟨b2, o2, none⟩) h2).trans c2, (hb.cell (p := ⟨b2, o2 + 1, none⟩) h2).trans c3, (hb.cell (p := ⟨b2, o2 + 2, none⟩) h2).trans c4, (hb.cell (p := ⟨b2, o2 + 3, none⟩) h2).trans c5, (hb.cell (p := ⟨b2, o2 + 4, none⟩) h2).trans c6, (hb.cell (p := ⟨b2, o2 + 5, none⟩) h2).trans c7, (hb.cell (p := ⟨b + 1, 0, none⟩) h0).trans c8, (hb.cell (p := ⟨b + 1, 1, none⟩) h0).trans c9, (hb.cell (p := ⟨b + 1, 2, none⟩) h0).trans c10⟩

set_option maxRecDepth 100000 in
set_option maxHeartbeats 4000000 in
theorem sWhereIn (W H L : Int) (ps : List DSkyPoint) (aw : List DSkyAirway) (ss : List DSkySector) (rs : List DSkyRunway) (ao3 : Option Addr) (cap3 : Nat) (ao4 : Option Addr) (cap4 : Nat) (ao5 : Option Addr) (cap5 : Nat) (ao6 : Option Addr) (cap6 : Nat) (px py pl : Int) (w : World) (h : SliceAt vSkySector (old w) w ao5 cap5 ss) :
    Calls Tryz.prog 53 #[.agg #[.int .i64 W, .int .i64 H, .int .i64 L, .slice ao3 ps.length cap3, .slice ao4 aw.length cap4, .slice ao5 ss.length cap5, .slice ao6 rs.length cap6], .agg #[.int .i64 px, .int .i64 py, .int .i64 pl]] w fun e w' => e = .returned (whereV (whereOf ss (px, py, pl))) ∧ Below w.heap.size w w' := by
  have hlen : ss.length ≤ maxLen := Nat.le_trans h.1 h.2.1
  unfold maxLen at hlen
  obtain ⟨w0, hw0⟩ : ∃ w0, w0 = (w.alloc (.cells #[.int .i64 W, .int .i64 H, .int .i64 L, .slice ao3 ps.length cap3, .slice ao4 aw.length cap4, .slice ao5 ss.length cap5, .slice ao6 rs.length cap6] 39)).alloc (.cells #[.int .i64 px, .int .i64 py, .int .i64 pl] 91) := ⟨_, rfl⟩
  have hb0 : Below w.heap.size w w0 := by rw [hw0]; exact ((Below.refl _ _).alloc (Nat.le_refl _) _).alloc (by simp) _
  have q5 : w0.cell? ⟨w.heap.size, 5, none⟩ = some (.slice ao5 ss.length cap5) := by rw [hw0]; go_simp
  have qp : PlC (w.heap.size + 1) (px, py, pl) w0 := by rw [hw0]; exact ⟨by go_simp, by go_simp, by go_simp⟩
  have hsz : w0.heap.size = w.heap.size + 2 := by rw [hw0]; simp
  go_enter Tryz.func53, Tryz.ntmps53
  go_wp2_with fail
  rw [← hw0]
  clear hw0
  go_loopw [6] (fun i wr => ∃ k : Nat, k ≤ ss.length ∧ i = .int .i64 k ∧ Hid (NoSec ss (px, py, pl) k) ∧ Below w.heap.size w wr ∧ Below (w.heap.size + 2) w0 wr) (fun i _ => ss.length - (intOf i).toNat)
  case atStart => exact ⟨0, Nat.zero_le _, rfl, fun j _ hj => by omega, hb0, Below.refl _ _⟩
  case round =>
    obtain ⟨k, hk, rfl, hno, hB, hB0⟩ := hrel
    have hwz := hB0.size
    have z5 := (hB0.cell (p := ⟨w.heap.size, 5, none⟩) (by show w.heap.size < _; omega)).trans q5
    by_cases hlt : k < ss.length
    · obtain ⟨b1, off, ao1, cap1, rfl, hok, c0, c1, q0, p1⟩ := elem_SkySector h hlt
      have f0 := (hB.cell (p := ⟨b1, off + k * 2, none⟩) hok).trans c0
      have f1 := (hB.cell (p := ⟨b1, off + k * 2 + 1, none⟩) hok).trans c1
      have hkI : (k : Int) < (ss.length : Int) := by omega
      have HSOME : Hid (∀ m (hm : m < (ss[k]'hlt).2.length), inB ((ss[k]'hlt).2[m]'hm) (px, py, pl) = true → whereOf ss (px, py, pl) = some (ss[k]'hlt).1) := fun m hm hb => where_some hlt hno.out hm hb
      have HNEXT : Hid (NoBlk (ss[k]'hlt).2 (px, py, pl) (ss[k]'hlt).2.length → NoSec ss (px, py, pl) (k + 1)) := fun h1 j hj h2 => by
        by_cases e : j = k
        · subst e; exact noBlk_all h1
        · exact hno.out j hj (by omega)
      have hlen1 : (ss[k]'hlt).2.length ≤ 9223372036854775807 := Nat.le_trans p1.1 p1.2.1
      generalize ss[k]'hlt = sk at *
      obtain ⟨nm, bs⟩ := sk
      simp only at f0 f1 p1 HSOME HNEXT q0 hlen1 c0 c1
      clear hno
      obtain ⟨wo, hwo⟩ : ∃ x, x = wr := ⟨_, rfl⟩
      subst hwo
      go_wp2
      go_loopw [7] (fun i wr => ∃ m : Nat, m ≤ bs.length ∧ i = .int .i64 m ∧ Hid (NoBlk bs (px, py, pl) m) ∧ Below w.heap.size w wr ∧ Below (w.heap.size + 2) w0 wr) (fun i _ => bs.length - (intOf i).toNat)
      case atStart => exact ⟨0, Nat.zero_le _, rfl, fun j _ hj => by omega, hB, hB0⟩
      case round =>
        clear f0 f1 z5 hwz
        obtain ⟨m, hm, rfl, hnb, hB2, hB02⟩ := hrel
        have hwz2 := hB02.size
        have z5 := (hB02.cell (p := ⟨w.heap.size, 5, none⟩) (by show w.heap.size < _; omega)).trans q5
        have f0 := (hB2.cell (p := ⟨b1, off + k * 2, none⟩) hok).trans c0
        have f1 := (hB2.cell (p := ⟨b1, off + k * 2 + 1, none⟩) hok).trans c1
        by_cases hltm : m < bs.length
        · obtain ⟨b2, off2, rfl, hok2, d0, d1, d2, d3, d4, d5, _, _, _, _, _, _⟩ := elem_SkyBlock p1 hltm
          have g0 := (hB2.cell (p := ⟨b2, off2 + m * 6, none⟩) hok2).trans d0
          have g1 := (hB2.cell (p := ⟨b2, off2 + m * 6 + 1, none⟩) hok2).trans d1
          have g2 := (hB2.cell (p := ⟨b2, off2 + m * 6 + 2, none⟩) hok2).trans d2
          have g3 := (hB2.cell (p := ⟨b2, off2 + m * 6 + 3, none⟩) hok2).trans d3
          have g4 := (hB2.cell (p := ⟨b2, off2 + m * 6 + 4, none⟩) hok2).trans d4
          have g5 := (hB2.cell (p := ⟨b2, off2 + m * 6 + 5, none⟩) hok2).trans d5
          have gp := qp.below hB02 (by omega)
          have hmI : (m : Int) < (bs.length : Int) := by omega
          have HH : Hid (inB (bs[m]'hltm) (px, py, pl) = true → whereOf ss (px, py, pl) = some nm) := HSOME.out m hltm
          have HN : Hid (inB (bs[m]'hltm) (px, py, pl) = false → NoBlk bs (px, py, pl) (m + 1)) := fun hf j hj h2 => by
            by_cases e : j = m
            · subst e; exact hf
            · exact hnb.out j hj (by omega)
          generalize bs[m]'hltm = bk at *
          obtain ⟨x0, y0, x1, y1, lo, hi⟩ := bk
          simp only at g0 g1 g2 g3 g4 g5
          have HF := fun W => sInB (x0, y0, x1, y1, lo, hi) (px, py, pl) W
          generalize inB (x0, y0, x1, y1, lo, hi) (px, py, pl) = v at *
          simp only [vBlk, vPl] at HF
          have HC0 : WhC w.heap.size b1 (off + k * 2 + 1) b2 (off2 + m * 6) (.slice (some ⟨b1, off, none⟩) ss.length cap5) (.slice (some ⟨b2, off2, none⟩) bs.length cap1) x0 y0 x1 y1 lo hi px py pl wr.drew := WhC.below (n := wr.heap.size) ⟨z5, f1, g0, g1, g2, g3, g4, g5, gp.1, gp.2.1, gp.2.2⟩ ((Below.refl _ _).drew) (by omega) (Nat.lt_of_lt_of_le hok hB2.size) (Nat.lt_of_lt_of_le hok2 hB2.size)
          clear d0 d1 d2 d3 d4 d5 hnb
          go_wp2_with fail
          refine wp_region_RC (WhC w.heap.size b1 (off + k * 2 + 1) b2 (off2 + m * 6) (.slice (some ⟨b1, off, none⟩) ss.length cap5) (.slice (some ⟨b2, off2, none⟩) bs.length cap1) x0 y0 x1 y1 lo hi px py pl) mixedF ?_
          refine RC.take (i := 0) (v := ?va0) rfl (by kernel_rfl) (by kernel_rfl) (by kernel_rfl) (fun _ _ _ h => h) HC0 (by rfl) ?ya0 ?ra0
          case ya0 => (intro W hW; obtain ⟨c0, c1, c2, c3, c4, c5, c6, c7, c8, c9, c10⟩ := hW; go_simp; try with_reducible rfl)
          refine RC.take (i := 1) (v := ?va1) rfl (by kernel_rfl) (by kernel_rfl) (by kernel_rfl) (fun _ _ _ h => h) HC0 (by rfl) ?ya1 ?ra1
          case ya1 => (intro W hW; obtain ⟨c0, c1, c2, c3, c4, c5, c6, c7, c8, c9, c10⟩ := hW; go_simp; try with_reducible rfl)
          refine RC.take (i := 2) (v := ?va2) rfl (by kernel_rfl) (by kernel_rfl) (by kernel_rfl) (fun _ _ _ h => h) HC0 (by rfl) ?ya2 ?ra2
          case ya2 => (intro W hW; obtain ⟨c0, c1, c2, c3, c4, c5, c6, c7, c8, c9, c10⟩ := hW; go_simp; try with_reducible rfl)
          refine RC.take (i := 3) (v := ?va3) rfl (by kernel_rfl) (by kernel_rfl) (by kernel_rfl) (fun _ _ _ h => h) HC0 (by rfl) ?ya3 ?ra3
          case ya3 => (intro W hW; obtain ⟨c0, c1, c2, c3, c4, c5, c6, c7, c8, c9, c10⟩ := hW; go_simp; try with_reducible rfl)
          refine RC.take (i := 4) (v := ?va4) rfl (by kernel_rfl) (by kernel_rfl) (by kernel_rfl) (fun _ _ _ h => h) HC0 (by rfl) ?ya4 ?ra4
          case ya4 => (intro W hW; obtain ⟨c0, c1, c2, c3, c4, c5, c6, c7, c8, c9, c10⟩ := hW; go_simp; try with_reducible rfl)
          refine RC.take (i := 5) (v := ?va5) rfl (by kernel_rfl) (by kernel_rfl) (by kernel_rfl) (fun _ _ _ h => h) HC0 (by rfl) ?ya5 ?ra5
          case ya5 => (intro W hW; obtain ⟨c0, c1, c2, c3, c4, c5, c6, c7, c8, c9, c10⟩ := hW; go_simp; try with_reducible rfl)
          refine RC.take (i := 6) (v := ?va6) rfl (by kernel_rfl) (by kernel_rfl) (by kernel_rfl) (fun _ _ _ h => h) HC0 (by rfl) ?ya6 ?ra6
          case ya6 => (intro W hW; obtain ⟨c0, c1, c2, c3, c4, c5, c6, c7, c8, c9, c10⟩ := hW; go_simp; try with_reducible rfl)
          refine RC.take (i := 7) (v := ?va7) rfl (by kernel_rfl) (by kernel_rfl) (by kernel_rfl) (fun _ _ _ h => h) HC0 (by rfl) ?ya7 ?ra7
          case ya7 => (intro W hW; obtain ⟨c0, c1, c2, c3, c4, c5, c6, c7, c8, c9, c10⟩ := hW; go_simp; try with_reducible rfl)
          refine RC.take (i := 8) (v := ?va8) rfl (by kernel_rfl) (by kernel_rfl) (by kernel_rfl) (fun _ _ _ h => h) HC0 (by rfl) ?ya8 ?ra8
          case ya8 => (intro W hW; obtain ⟨c0, c1, c2, c3, c4, c5, c6, c7, c8, c9, c10⟩ := hW; go_simp; try with_reducible rfl)
          refine RC.take (i := 9) (v := ?va9) rfl (by kernel_rfl) (by kernel_rfl) (by kernel_rfl) (fun _ _ _ h => h) HC0 (by rfl) ?ya9 ?ra9
          case ya9 => (intro W hW; obtain ⟨c0, c1, c2, c3, c4, c5, c6, c7, c8, c9, c10⟩ := hW; go_simp; try with_reducible rfl)
          refine RC.want (i := 10) (by kernel_rfl) rfl (by rfl) (fun K hK => ?_)
          go_simp
          refine (HF _).mono ?_
          rintro e w3 ⟨rfl, hb3⟩
          simp only
          refine hK _ _ (HC0.below hb3 (by show w.heap.size + 1 < wr.heap.size; omega) (Nat.lt_of_lt_of_le hok hB2.size) (Nat.lt_of_lt_of_le hok2 hB2.size)) ?_
          clear hK K
          refine RC.done (by kernel_rfl) ?_
          have hB3 : Below w.heap.size w w3 := hB2.drew.trans (hb3.mono (by show w.heap.size ≤ wr.heap.size; omega))
          have hB03 : Below (w.heap.size + 2) w0 w3 := hB02.drew.trans (hb3.mono (by show w.heap.size + 2 ≤ wr.heap.size; omega))
          have hs3 := hB03.size
          have z53 := (hB03.cell (p := ⟨w.heap.size, 5, none⟩) (by show w.heap.size < _; omega)).trans q5
          have f03 := (hB3.cell (p := ⟨b1, off + k * 2, none⟩) hok).trans c0
          clear HF hb3 g0 g1 g2 g3 g4 g5 gp z5 f0 f1 HC0
          cases v
          · have HN2 : Hid (NoBlk bs (px, py, pl) (m + 1)) := HN.out rfl
            clear HN HH
            go_wp2
            go_roundw
            case rel => exact ⟨m + 1, by omega, by go_num, HN2, hB3, hB03⟩
            case measure => simp [intOf]; omega
          · have HH2 : Hid (whereOf ss (px, py, pl) = some nm) := HH.out rfl
            clear HN HH
            go_wp2
            exact bodyPost_ret (v := .tuple #[.string nm, .bool true]) (by simp [results, Tryz.results53, go_sem]) rfl ⟨by rw [HH2.out]; rfl, hB3⟩
        · have hme : m = bs.length := by omega
          subst hme
          have HN2 : Hid (NoSec ss (px, py, pl) (k + 1)) := HNEXT.out hnb.out
          clear hnb HNEXT HSOME
          go_wp2
          go_roundw
          case rel => exact ⟨k + 1, by omega, by go_num, HN2, hB2, hB02⟩
          case measure => simp [intOf]; omega
    · have hke : k = ss.length := by omega
      subst hke
      have HE : Hid (whereOf ss (px, py, pl) = none) := where_none hno.out
      clear hno
      go_wp2
      exact bodyPost_ret (v := .tuple #[.string ⟨#[]⟩, .bool false]) (by simp [results, Tryz.results53, go_sem]) rfl ⟨by rw [HE.out]; rfl, hB⟩

end Go.Proofs.YtnjkkohhgbgpgaaGreatDoor

/- DERIVED. A region that draws its order, whose operations only read and whose callees may lay blocks: walked once, behind a structure. -/
namespace Go.Proofs.YtnjkkohhgbgpgaaGreatDoor
namespace Leg
open Go.RowKit Go.Sort
set_option linter.unusedSimpArgs false
set_option linter.unusedVariables false

structure QW (P : Program) (ops : Array Oper) (C : World → Prop) (Q : Act → Prop) (l : List Oper) (a : Act) : Prop where
  out : wpQuiet P ops C Q l a

theorem QW.want {P : Program} {ops : Array Oper} {C : World → Prop} {Q : Act → Prop} {a : Act} {o : Oper} {rest : List Oper} (hw : Region.wanted o (yielded ops a.tmps) = true) (h : ∀ K : Act → Prop, (∀ a, QW P ops C Q rest a → K a) → o.quiet P a C K) : QW P ops C Q (o :: rest) a := by
  refine ⟨?_⟩
  unfold wpQuiet
  rw [if_pos hw]
  exact Oper.quiet_mono (fun a h => h.out) (h (fun a => QW P ops C Q rest a) (fun _ h => h))

theorem QW.skip {P : Program} {ops : Array Oper} {C : World → Prop} {Q : Act → Prop} {a : Act} {o : Oper} {rest : List Oper} (hw : Region.wanted o (yielded ops a.tmps) = false) (h : QW P ops C Q rest (a.put o.dst undef)) : QW P ops C Q (o :: rest) a := by
  refine ⟨?_⟩
  unfold wpQuiet
  rw [if_neg (by rw [hw]; decide)]
  exact h.out

theorem QW.nil {P : Program} {ops : Array Oper} {C : World → Prop} {Q : Act → Prop} {a : Act} (h : Q a) : QW P ops C Q [] a := ⟨wpQuiet_nil h⟩

theorem wp_region_qw {P : Program} {id : Nat} {Q : Exit → Act → World → Prop} {a : Act} {w : World} {l : List Oper} (hm : P.follows .mixedOrders = true) (hB : Region.lexB .any l.toArray = true)
    (h : QW P l.toArray (fun w' => ∃ p : Regrown, w' = grow (redrawn w p.d) p.os) (fun a' => ∀ w', (∃ p : Regrown, w' = grow (redrawn w p.d) p.os) → Q .normal a' w') l a) : (Code.region id l.toArray true).wp P Q a w :=
  wp_region_quiet_below hm hB h.out

end Leg
end Go.Proofs.YtnjkkohhgbgpgaaGreatDoor
