import Derived.Test.YtnjbplcdfiddeaaDoorSkySA
import Derived.Test.YtnjbplcdfiddeaaDoorIV0
import Derived.Test.YtnjbplcdfiddeaaDoorPQ0

/- DERIVED. A place within a block (impl.skyInBlock, spec.l5In); the sector of a place on plain data. -/
namespace Go.Proofs.YtnjbplcdfiddeaaDoor
open Go.RowKit
set_option linter.unusedSimpArgs false
set_option linter.unusedVariables false

/-- A place: X, Y, level. -/
abbrev DPlace := Int × Int × Int
def vPl (p : DPlace) : Value := .agg #[.int .i64 p.1, .int .i64 p.2.1, .int .i64 p.2.2]
def vBlk (b : DSkyBlock) : Value := .agg #[.int .i64 b.1, .int .i64 b.2.1, .int .i64 b.2.2.1, .int .i64 b.2.2.2.1, .int .i64 b.2.2.2.2.1, .int .i64 b.2.2.2.2.2]
instance (n lo hi : Int) : Decidable (InR n lo hi) := by unfold InR; infer_instance
def inB (b : DSkyBlock) (p : DPlace) : Bool := decide (InR p.1 b.1 b.2.2.1) && (decide (InR p.2.1 b.2.1 b.2.2.2.1) && decide (InR p.2.2 b.2.2.2.2.1 b.2.2.2.2.2))

theorem ifrom_b (n lo hi : Int) (w : World) (v : Bool) (h : decide (InR n lo hi) = v) :
    Calls Tryd.prog 57 #[.int .i64 n, .int .i64 lo, .int .i64 hi] w fun e w' => e = .returned (.bool v) ∧ w = w' := by
  subst h
  by_cases h : InR n lo hi
  · rw [decide_eq_true h]; exact from_yes n lo hi w h
  · rw [decide_eq_false h]; exact from_no n lo hi w h
theorem sin_b (n lo hi : Int) (w : World) (v : Bool) (h : decide (InR n lo hi) = v) :
    Calls Tryd.prog 41 #[.int .i64 n, .int .i64 lo, .int .i64 hi] w fun e w' => e = .returned (.bool v) ∧ w = w' := by
  subst h
  by_cases h : InR n lo hi
  · rw [decide_eq_true h]; exact (in_yes n lo hi w h).mono fun e w' ⟨a, b⟩ => ⟨a, b.symm⟩
  · rw [decide_eq_false h]; exact (in_no n lo hi w h).mono fun e w' ⟨a, b⟩ => ⟨a, b.symm⟩

set_option maxHeartbeats 1000000 in
theorem iInB (b : DSkyBlock) (p : DPlace) (w : World) :
    Calls Tryd.prog 26 #[vBlk b, vPl p] w fun e w' => e = .returned (.bool (inB b p)) ∧ Below w.heap.size w w' := by
  obtain ⟨x0, y0, x1, y1, lo, hi⟩ := b
  obtain ⟨x, y, l⟩ := p
  simp only [vBlk, vPl, inB]
  have HB : Below w.heap.size w ((w.alloc (.cells #[.int .i64 x0, .int .i64 y0, .int .i64 x1, .int .i64 y1, .int .i64 lo, .int .i64 hi] 57)).alloc (.cells #[.int .i64 x, .int .i64 y, .int .i64 l] 40)) := ((Below.refl _ _).alloc (Nat.le_refl _) _).alloc (by simp) _
  have H1 := fun w => ifrom_b x x0 x1 w _ rfl
  have H2 := fun w => ifrom_b y y0 y1 w _ rfl
  have H3 := fun w => ifrom_b l lo hi w _ rfl
  generalize decide (InR x x0 x1) = v1 at *
  generalize decide (InR y y0 y1) = v2 at *
  generalize decide (InR l lo hi) = v3 at *
  cases v1
  · go_enter Tryd.func26, Tryd.ntmps26
    go_wp2_with fail
    refine (H1 _).mono ?_
    rintro e w' ⟨rfl, rfl⟩
    go_wp2
    go_ret
    exact ⟨rfl, HB⟩
  · cases v2
    · go_enter Tryd.func26, Tryd.ntmps26
      go_wp2_with fail
      refine (H1 _).mono ?_
      rintro e w' ⟨rfl, rfl⟩
      clear H1
      go_wp2_with fail
      refine (H2 _).mono ?_
      rintro e w' ⟨rfl, rfl⟩
      go_wp2
      go_ret
      exact ⟨rfl, HB⟩
    · go_enter Tryd.func26, Tryd.ntmps26
      go_wp2_with fail
      refine (H1 _).mono ?_
      rintro e w' ⟨rfl, rfl⟩
      clear H1
      go_wp2_with fail
      refine (H2 _).mono ?_
      rintro e w' ⟨rfl, rfl⟩
      clear H2
      go_wp2_with fail
      refine (H3 _).mono ?_
      rintro e w' ⟨rfl, rfl⟩
      go_wp2
      go_ret
      exact ⟨rfl, HB⟩

set_option maxHeartbeats 1000000 in
theorem sInB (b : DSkyBlock) (p : DPlace) (w : World) :
    Calls Tryd.prog 47 #[vBlk b, vPl p] w fun e w' => e = .returned (.bool (inB b p)) ∧ Below w.heap.size w w' := by
  obtain ⟨x0, y0, x1, y1, lo, hi⟩ := b
  obtain ⟨x, y, l⟩ := p
  simp only [vBlk, vPl, inB]
  have HB : Below w.heap.size w ((w.alloc (.cells #[.int .i64 x0, .int .i64 y0, .int .i64 x1, .int .i64 y1, .int .i64 lo, .int .i64 hi] 57)).alloc (.cells #[.int .i64 x, .int .i64 y, .int .i64 l] 40)) := ((Below.refl _ _).alloc (Nat.le_refl _) _).alloc (by simp) _
  have H1 := fun w => sin_b x x0 x1 w _ rfl
  have H2 := fun w => sin_b y y0 y1 w _ rfl
  have H3 := fun w => sin_b l lo hi w _ rfl
  generalize decide (InR x x0 x1) = v1 at *
  generalize decide (InR y y0 y1) = v2 at *
  generalize decide (InR l lo hi) = v3 at *
  cases v1
  · go_enter Tryd.func47, Tryd.ntmps47
    go_wp2_with fail
    refine (H1 _).mono ?_
    rintro e w' ⟨rfl, rfl⟩
    go_wp2
    go_ret
    exact ⟨rfl, HB⟩
  · cases v2
    · go_enter Tryd.func47, Tryd.ntmps47
      go_wp2_with fail
      refine (H1 _).mono ?_
      rintro e w' ⟨rfl, rfl⟩
      clear H1
      go_wp2_with fail
      refine (H2 _).mono ?_
      rintro e w' ⟨rfl, rfl⟩
      go_wp2
      go_ret
      exact ⟨rfl, HB⟩
    · go_enter Tryd.func47, Tryd.ntmps47
      go_wp2_with fail
      refine (H1 _).mono ?_
      rintro e w' ⟨rfl, rfl⟩
      clear H1
      go_wp2_with fail
      refine (H2 _).mono ?_
      rintro e w' ⟨rfl, rfl⟩
      clear H2
      go_wp2_with fail
      refine (H3 _).mono ?_
      rintro e w' ⟨rfl, rfl⟩
      go_wp2
      go_ret
      exact ⟨rfl, HB⟩

/-- The first sector in which a place lies. -/
def whereOf (ss : List DSkySector) (p : DPlace) : Option ByteArray := (ss.find? fun s => s.2.any fun b => inB b p).map fun s => s.1
def whereV : Option ByteArray → Value
  | none => .tuple #[.string ⟨#[]⟩, .bool false]
  | some n => .tuple #[.string n, .bool true]
/-- The first k sectors have no such place. -/
def NoSec (ss : List DSkySector) (p : DPlace) (k : Nat) : Prop := ∀ j (h : j < ss.length), j < k → ((ss[j]'h).2.any fun b => inB b p) = false
def NoBlk (bs : List DSkyBlock) (p : DPlace) (k : Nat) : Prop := ∀ j (h : j < bs.length), j < k → inB (bs[j]'h) p = false
theorem noBlk_all {bs : List DSkyBlock} {p : DPlace} (h : NoBlk bs p bs.length) : (bs.any fun b => inB b p) = false := by
  rw [List.any_eq_false]
  intro b hb
  obtain ⟨i, hi, rfl⟩ := List.getElem_of_mem hb
  rw [h i hi hi]
  simp
theorem where_none {ss : List DSkySector} {p : DPlace} (h : NoSec ss p ss.length) : whereOf ss p = none := by
  unfold whereOf
  rw [List.find?_eq_none.2 ?_]
  · rfl
  · intro s hs
    obtain ⟨i, hi, rfl⟩ := List.getElem_of_mem hs
    rw [h i hi hi]
    simp
theorem where_some {ss : List DSkySector} {p : DPlace} {k m : Nat} (hk : k < ss.length) (h : NoSec ss p k) (hm : m < (ss[k]'hk).2.length) (hb : inB ((ss[k]'hk).2[m]'hm) p = true) : whereOf ss p = some (ss[k]'hk).1 := by
  unfold whereOf
  rw [(List.find?_eq_some_iff_getElem (b := ss[k]'hk)).2 ?_]
  · rfl
  · refine ⟨List.any_eq_true.2 ⟨_, List.getElem_mem hm, hb⟩, k, hk, rfl, fun j hj => ?_⟩
    rw [h j (by omega) hj]
    rfl

end Go.Proofs.YtnjbplcdfiddeaaDoor

/- DERIVED. impl.SkyWhere: its walk. -/
namespace Go.Proofs.YtnjbplcdfiddeaaDoor
open Go.RowKit
set_option linter.unusedSimpArgs false
set_option linter.unusedVariables false

/-- The box of a place. -/
def PlC (b : Nat) (p : DPlace) (W : World) : Prop := W.cell? ⟨b, 0, none⟩ = some (.int .i64 p.1) ∧ W.cell? ⟨b, 1, none⟩ = some (.int .i64 p.2.1) ∧ W.cell? ⟨b, 2, none⟩ = some (.int .i64 p.2.2)
theorem PlC.below {b m : Nat} {p : DPlace} {w w' : World} (h : PlC b p w) (hb : Below m w w') (hn : b < m) : PlC b p w' := by
  obtain ⟨h0, h1, h2⟩ := h
  exact ⟨(hb.cell (p := ⟨b, 0, none⟩) hn).trans h0, (hb.cell (p := ⟨b, 1, none⟩) hn).trans h1, (hb.cell (p := ⟨b, 2, none⟩) hn).trans h2⟩

set_option maxHeartbeats 1000000 in
theorem whereFn (nm : ByteArray) (b : DSkyBlock) (p : DPlace) (bp : Nat) (w : World) (hp : PlC bp p w) (hbp : bp < w.heap.size) :
    Calls Tryd.prog 25 #[.string nm, vBlk b, .pointer (some ⟨bp, 0, none⟩)] w fun e w' => e = .returned (.tuple #[.string nm, .bool (inB b p)]) ∧ Below w.heap.size w w' := by
  have HI := fun W => iInB b p W
  generalize inB b p = v at *
  obtain ⟨x0, y0, x1, y1, lo, hi⟩ := b
  obtain ⟨x, y, l⟩ := p
  have hp1 := hp.below ((Below.refl w.heap.size w).alloc (Nat.le_refl _) (.cells #[.int .i64 x0, .int .i64 y0, .int .i64 x1, .int .i64 y1, .int .i64 lo, .int .i64 hi] 57)) hbp
  obtain ⟨c0, c1, c2⟩ := hp1
  simp only [vBlk, vPl] at *
  go_enter Tryd.func25, Tryd.ntmps25
  go_wp2_with fail
  refine (HI _).mono ?_
  rintro e w1 ⟨rfl, hb1⟩
  go_wp2
  exact bodyPost_ret (v := .tuple #[.string nm, .bool v]) (by simp [results, Tryd.results25, go_sem]) rfl ⟨rfl, ((Below.refl w.heap.size w).alloc (Nat.le_refl _) _).trans (hb1.mono (by simp))⟩

set_option maxRecDepth 100000 in
set_option maxHeartbeats 2000000 in
theorem firstWhere (ao : Option Addr) (cap : Nat) (ss : List DSkySector) (p : DPlace) (bp : Nat) (w : World) (h : SliceAt vSkySector (old w) w ao cap ss) (hp : PlC bp p w) (hbp : bp < w.heap.size) :
    Calls Tryd.prog 24 #[.slice ao ss.length cap, .func (.func 25) #[] #[.pointer (some ⟨bp, 0, none⟩)]] w fun e w' => e = .returned (whereV (whereOf ss p)) ∧ Below w.heap.size w w' := by
  have hlen : ss.length ≤ maxLen := Nat.le_trans h.1 h.2.1
  unfold maxLen at hlen
  go_enter Tryd.func24, Tryd.ntmps24
  go_wp2
  go_loopw [15] (fun i wr => ∃ k : Nat, k ≤ ss.length ∧ i = .int .i64 k ∧ Hid (NoSec ss p k) ∧ Below w.heap.size w wr) (fun i _ => ss.length - (intOf i).toNat)
  case atStart => exact ⟨0, Nat.zero_le _, rfl, fun j _ hj => by omega, Below.refl _ _⟩
  case round =>
    obtain ⟨k, hk, rfl, hno, hB⟩ := hrel
    have hwz := hB.size
    by_cases hlt : k < ss.length
    · obtain ⟨b1, off, ao1, cap1, rfl, hok, c0, c1, q0, p1⟩ := elem_SkySector h hlt
      have f0 := (hB.cell (p := ⟨b1, off + k * 2, none⟩) hok).trans c0
      have f1 := (hB.cell (p := ⟨b1, off + k * 2 + 1, none⟩) hok).trans c1
      have hkI : (k : Int) < (ss.length : Int) := by omega
      have HSOME : Hid (∀ m (hm : m < (ss[k]'hlt).2.length), inB ((ss[k]'hlt).2[m]'hm) p = true → whereOf ss p = some (ss[k]'hlt).1) := fun m hm hb => where_some hlt hno.out hm hb
      have HNEXT : Hid (NoBlk (ss[k]'hlt).2 p (ss[k]'hlt).2.length → NoSec ss p (k + 1)) := fun h1 j hj h2 => by
        by_cases e : j = k
        · subst e; exact noBlk_all h1
        · exact hno.out j hj (by omega)
      have hlen1 : (ss[k]'hlt).2.length ≤ 9223372036854775807 := Nat.le_trans p1.1 p1.2.1
      generalize ss[k]'hlt = sk at *
      obtain ⟨nm, bs⟩ := sk
      simp only at f0 f1 p1 HSOME HNEXT q0 hlen1
      clear c0 c1 hno
      obtain ⟨wo, hwo⟩ : ∃ x, x = wr := ⟨_, rfl⟩
      subst hwo
      go_wp2
      go_loopw [22] (fun i wr => ∃ m : Nat, m ≤ bs.length ∧ i = .int .i64 m ∧ Hid (NoBlk bs p m) ∧ Below w.heap.size w wr ∧ wr.cell? ⟨wo.heap.size, 0, none⟩ = some (.string nm) ∧ wo.heap.size < wr.heap.size) (fun i _ => bs.length - (intOf i).toNat)
      case atStart => exact ⟨0, Nat.zero_le _, rfl, fun j _ hj => by omega, hB.alloc (by omega) _, by go_simp, by simp⟩
      case round =>
        obtain ⟨m, hm, rfl, hnb, hB2, hnm, hxs⟩ := hrel
        have hwz2 := hB2.size
        by_cases hltm : m < bs.length
        · obtain ⟨b2, off2, rfl, hok2, d0, d1, d2, d3, d4, d5, _, _, _, _, _, _⟩ := elem_SkyBlock p1 hltm
          have g0 := (hB2.cell (p := ⟨b2, off2 + m * 6, none⟩) hok2).trans d0
          have g1 := (hB2.cell (p := ⟨b2, off2 + m * 6 + 1, none⟩) hok2).trans d1
          have g2 := (hB2.cell (p := ⟨b2, off2 + m * 6 + 2, none⟩) hok2).trans d2
          have g3 := (hB2.cell (p := ⟨b2, off2 + m * 6 + 3, none⟩) hok2).trans d3
          have g4 := (hB2.cell (p := ⟨b2, off2 + m * 6 + 4, none⟩) hok2).trans d4
          have g5 := (hB2.cell (p := ⟨b2, off2 + m * 6 + 5, none⟩) hok2).trans d5
          have hmI : (m : Int) < (bs.length : Int) := by omega
          have HH : Hid (inB (bs[m]'hltm) p = true → whereOf ss p = some nm) := HSOME.out m hltm
          have HN : Hid (inB (bs[m]'hltm) p = false → NoBlk bs p (m + 1)) := fun hf j hj h2 => by
            by_cases e : j = m
            · subst e; exact hf
            · exact hnb.out j hj (by omega)
          generalize bs[m]'hltm = bk at *
          obtain ⟨x0, y0, x1, y1, lo, hi⟩ := bk
          simp only at g0 g1 g2 g3 g4 g5
          have hbx : Below w.heap.size w (wr.alloc (.cells #[.int .i64 x0, .int .i64 y0, .int .i64 x1, .int .i64 y1, .int .i64 lo, .int .i64 hi] 57)) := hB2.alloc (by omega) _
          have HF := whereFn nm (x0, y0, x1, y1, lo, hi) p bp _ (hp.below hbx hbp) (by have := hbx.size; omega)
          generalize inB (x0, y0, x1, y1, lo, hi) p = v at *
          simp only [vBlk] at HF
          clear d0 d1 d2 d3 d4 d5 hnb
          go_wp2_with fail
          refine HF.mono ?_
          rintro e w3 ⟨rfl, hb3⟩
          have hB3 := hbx.trans (hb3.mono (by simp; omega))
          have hnm3 : w3.cell? ⟨wo.heap.size, 0, none⟩ = some (.string nm) := (hb3.cell (p := ⟨wo.heap.size, 0, none⟩) (by simp; omega)).trans (by go_simp)
          have hs3 : wo.heap.size < w3.heap.size := by have := hb3.size; simp at this; omega
          clear HF hb3 hbx g0 g1 g2 g3 g4 g5
          cases v
          · have HN2 : Hid (NoBlk bs p (m + 1)) := HN.out rfl
            clear HN HH
            go_wp2
            go_roundw
            case rel => exact ⟨m + 1, by omega, by go_num, HN2, hB3, hnm3, hs3⟩
            case measure => simp [intOf]; omega
          · have HH2 : Hid (whereOf ss p = some nm) := HH.out rfl
            clear HN HH
            go_wp2
            exact bodyPost_ret (v := .tuple #[.string nm, .bool true]) (by simp [results, Tryd.results24, go_sem]) rfl ⟨by rw [HH2.out]; rfl, hB3⟩
        · have hme : m = bs.length := by omega
          subst hme
          have HN2 : Hid (NoSec ss p (k + 1)) := HNEXT.out hnb.out
          clear hnb HNEXT HSOME
          go_wp2
          go_roundw
          case rel => exact ⟨k + 1, by omega, by go_num, HN2, hB2⟩
          case measure => simp [intOf]; omega
    · have hke : k = ss.length := by omega
      subst hke
      have HE : Hid (whereOf ss p = none) := where_none hno.out
      clear hno
      go_wp2
      exact bodyPost_ret (v := .tuple #[.string ⟨#[]⟩, .bool false]) (by simp [results, Tryd.results24, go_sem]) rfl ⟨by rw [HE.out]; rfl, hB⟩

end Go.Proofs.YtnjbplcdfiddeaaDoor

/- DERIVED. impl.SkyWhere and spec.SkyWhere: their walks. -/
namespace Go.Proofs.YtnjbplcdfiddeaaDoor
open Go.RowKit
set_option linter.unusedSimpArgs false
set_option linter.unusedVariables false

noncomputable def validB (x : DSky) : Bool := @decide (ValidSky x) (Classical.propDecidable _)
theorem validB_iff {x : DSky} : validB x = true ↔ ValidSky x := by unfold validB; simp
theorem validB_of {x : DSky} {e : Ending} (h : (ValidSky x ∧ e = .returned (.bool true)) ∨ (¬ ValidSky x ∧ e = .returned (.bool false))) : e = .returned (.bool (validB x)) := by
  rcases h with ⟨h1, h2⟩ | ⟨h1, h2⟩
  · rw [h2, validB_iff.2 h1]
  · have : validB x = false := by
      cases hb : validB x
      · rfl
      · exact absurd (validB_iff.1 hb) h1
    rw [h2, this]
noncomputable def whereSky (x : DSky) (p : DPlace) : Option ByteArray := if validB x then whereOf x.2.2.2.2.2.1 p else none

set_option maxRecDepth 100000 in
set_option maxHeartbeats 2000000 in
theorem iWhere (x : DSky) (ao3 : Option Addr) (cap3 : Nat) (ao4 : Option Addr) (cap4 : Nat) (ao5 : Option Addr) (cap5 : Nat) (ao6 : Option Addr) (cap6 : Nat) (p : DPlace) (w : World) (h : SkyAt w x ao3 cap3 ao4 cap4 ao5 cap5 ao6 cap6) (hT : TurnsLaid w) :
    Calls Tryd.prog 9 #[.agg #[.int .i64 x.1, .int .i64 x.2.1, .int .i64 x.2.2.1, .slice ao3 x.2.2.2.1.length cap3, .slice ao4 x.2.2.2.2.1.length cap4, .slice ao5 x.2.2.2.2.2.1.length cap5, .slice ao6 x.2.2.2.2.2.2.length cap6], vPl p] w fun e w' => e = .returned (whereV (whereSky x p)) ∧ Below w.heap.size w w' := by
  obtain ⟨W, H, L, ps, aw, ss, rs⟩ := x
  obtain ⟨px, py, pl⟩ := p
  obtain ⟨w0, hw0⟩ : ∃ w0, w0 = (w.alloc (.cells #[.int .i64 W, .int .i64 H, .int .i64 L, .slice ao3 ps.length cap3, .slice ao4 aw.length cap4, .slice ao5 ss.length cap5, .slice ao6 rs.length cap6] 38)).alloc (.cells #[.int .i64 px, .int .i64 py, .int .i64 pl] 40) := ⟨_, rfl⟩
  have hb0 : Below w.heap.size w w0 := by rw [hw0]; exact ((Below.refl _ _).alloc (Nat.le_refl _) _).alloc (by simp) _
  have HV := iSkyValid (W, H, L, ps, aw, ss, rs) ao3 cap3 ao4 cap4 ao5 cap5 ao6 cap6 w0 (h.later hb0) (hT.later hb0)
  have hp0 : PlC (w.heap.size + 1) (px, py, pl) w0 := by rw [hw0]; exact ⟨by go_simp, by go_simp, by go_simp⟩
  have c5 : w0.cell? ⟨w.heap.size, 5, none⟩ = some (.slice ao5 ss.length cap5) := by rw [hw0]; go_simp
  have hsz : w0.heap.size = w.heap.size + 2 := by rw [hw0]; simp
  have h5 := (h.later hb0).p5
  have HWS : Hid (whereSky (W, H, L, ps, aw, ss, rs) (px, py, pl) = if validB (W, H, L, ps, aw, ss, rs) then whereOf ss (px, py, pl) else none) := rfl
  generalize whereSky (W, H, L, ps, aw, ss, rs) (px, py, pl) = r at *
  simp only [vPl] at HV h5 ⊢
  clear h hT
  rw [hw0] at HV
  go_enter Tryd.func9, Tryd.ntmps9
  go_wp2_with fail
  refine HV.mono ?_
  rw [← hw0]
  rintro e w1 ⟨he, hb1⟩
  have he := validB_of he
  subst he
  clear HV hw0
  have hB1 := hb0.trans (hb1.mono (by omega))
  have c5' := (hb1.cell (p := ⟨w.heap.size, 5, none⟩) (by show w.heap.size < _; omega)).trans c5
  have hp1 := hp0.below hb1 (by omega)
  have h51 := h5.later hb1
  have hs1 := hb1.size
  clear c5 hp0 h5 hb1
  generalize validB (W, H, L, ps, aw, ss, rs) = v at *
  cases v
  · have hr : Hid (r = none) := HWS.out
    clear HWS
    go_wp2
    exact bodyPost_ret (v := .tuple #[.string ⟨#[]⟩, .bool false]) (by simp [results, Tryd.results9, go_sem]) rfl ⟨by rw [hr.out]; rfl, hB1⟩
  · have hr : Hid (r = whereOf ss (px, py, pl)) := HWS.out
    clear HWS
    have HF := firstWhere ao5 cap5 ss (px, py, pl) (w.heap.size + 1) w1 h51 hp1 (by omega)
    go_wp2_with fail
    refine HF.mono ?_
    rintro e w2 ⟨rfl, hb2⟩
    have hB2 := hB1.trans (hb2.mono (by omega))
    rw [← hr.out]
    clear HF hb2
    cases r with
    | none =>
      simp only [whereV]
      go_wp2
      exact bodyPost_ret (v := .tuple #[.string ⟨#[]⟩, .bool false]) (by simp [results, Tryd.results9, go_sem]) rfl ⟨rfl, hB2⟩
    | some n =>
      simp only [whereV]
      go_wp2
      exact bodyPost_ret (v := .tuple #[.string n, .bool true]) (by simp [results, Tryd.results9, go_sem]) rfl ⟨rfl, hB2⟩

end Go.Proofs.YtnjbplcdfiddeaaDoor

/- DERIVED. Touching on plain data; impl.skySpansTouch, impl.skyBlocksTouch, spec.l5Touch: their walks. -/
namespace Go.Proofs.YtnjbplcdfiddeaaDoor
open Go.RowKit
set_option linter.unusedSimpArgs false
set_option linter.unusedVariables false

def spanT (l h l' h' : Int) : Bool := decide (l ≤ h' + 1) && decide (l' ≤ h + 1)
def SmallI (n : Int) : Prop := -1000 ≤ n ∧ n ≤ 1000
structure SmallB (b : DSkyBlock) : Prop where
  a0 : SmallI b.1
  a1 : SmallI b.2.1
  a2 : SmallI b.2.2.1
  a3 : SmallI b.2.2.2.1
  a4 : SmallI b.2.2.2.2.1
  a5 : SmallI b.2.2.2.2.2
def touchBB (a b : DSkyBlock) : Bool := spanT a.1 a.2.2.1 b.1 b.2.2.1 && (spanT a.2.1 a.2.2.2.1 b.2.1 b.2.2.2.1 && spanT a.2.2.2.2.1 a.2.2.2.2.2 b.2.2.2.2.1 b.2.2.2.2.2)

set_option maxHeartbeats 1000000 in
theorem iSpans (l h l' h' : Int) (w : World) (v : Bool) (hv : spanT l h l' h' = v) (h1 : SmallI h) (h2 : SmallI h') :
    Calls Tryd.prog 62 #[.int .i64 l, .int .i64 h, .int .i64 l', .int .i64 h'] w fun e w' => e = .returned (.bool v) ∧ w = w' := by
  obtain ⟨p1, p2⟩ := h1
  obtain ⟨p3, p4⟩ := h2
  subst hv
  by_cases c1 : l ≤ h' + 1
  · by_cases c2 : l' ≤ h + 1
    · have e : spanT l h l' h' = true := by simp [spanT, c1, c2]
      rw [e]
      clear e
      go_enter Tryd.func62, Tryd.ntmps62
      go_wp2
      go_ret
      exact ⟨rfl, rfl⟩
    · have e : spanT l h l' h' = false := by simp [spanT, c1]; omega
      rw [e]
      clear e
      go_enter Tryd.func62, Tryd.ntmps62
      go_wp2
      go_ret
      exact ⟨rfl, rfl⟩
  · have e : spanT l h l' h' = false := by simp [spanT]; omega
    rw [e]
    clear e
    go_enter Tryd.func62, Tryd.ntmps62
    go_wp2
    go_ret
    exact ⟨rfl, rfl⟩

set_option maxHeartbeats 2000000 in
theorem iBlocksTouch (a b : DSkyBlock) (w : World) (ha : SmallB a) (hb : SmallB b) :
    Calls Tryd.prog 36 #[vBlk a, vBlk b] w fun e w' => e = .returned (.bool (touchBB a b)) ∧ Below w.heap.size w w' := by
  obtain ⟨x0, y0, x1, y1, lo, hi⟩ := a
  obtain ⟨x0', y0', x1', y1', lo', hi'⟩ := b
  obtain ⟨a0, a1, a2, a3, a4, a5⟩ := ha
  obtain ⟨b0, b1, b2, b3, b4, b5⟩ := hb
  simp only [vBlk, touchBB] at *
  have HB : Below w.heap.size w ((w.alloc (.cells #[.int .i64 x0, .int .i64 y0, .int .i64 x1, .int .i64 y1, .int .i64 lo, .int .i64 hi] 57)).alloc (.cells #[.int .i64 x0', .int .i64 y0', .int .i64 x1', .int .i64 y1', .int .i64 lo', .int .i64 hi'] 57)) := ((Below.refl _ _).alloc (Nat.le_refl _) _).alloc (by simp) _
  have H1 := fun w => iSpans x0 x1 x0' x1' w _ rfl a2 b2
  have H2 := fun w => iSpans y0 y1 y0' y1' w _ rfl a3 b3
  have H3 := fun w => iSpans lo hi lo' hi' w _ rfl a5 b5
  clear a0 a1 a2 a3 a4 a5 b0 b1 b2 b3 b4 b5
  generalize spanT x0 x1 x0' x1' = v1 at *
  generalize spanT y0 y1 y0' y1' = v2 at *
  generalize spanT lo hi lo' hi' = v3 at *
  cases v1
  · go_enter Tryd.func36, Tryd.ntmps36
    go_wp2_with fail
    refine (H1 _).mono ?_
    rintro e w' ⟨rfl, rfl⟩
    go_wp2
    go_ret
    exact ⟨rfl, HB⟩
  · cases v2
    · go_enter Tryd.func36, Tryd.ntmps36
      go_wp2_with fail
      refine (H1 _).mono ?_
      rintro e w' ⟨rfl, rfl⟩
      clear H1
      go_wp2_with fail
      refine (H2 _).mono ?_
      rintro e w' ⟨rfl, rfl⟩
      go_wp2
      go_ret
      exact ⟨rfl, HB⟩
    · go_enter Tryd.func36, Tryd.ntmps36
      go_wp2_with fail
      refine (H1 _).mono ?_
      rintro e w' ⟨rfl, rfl⟩
      clear H1
      go_wp2_with fail
      refine (H2 _).mono ?_
      rintro e w' ⟨rfl, rfl⟩
      clear H2
      go_wp2_with fail
      refine (H3 _).mono ?_
      rintro e w' ⟨rfl, rfl⟩
      go_wp2
      go_ret
      exact ⟨rfl, HB⟩

set_option maxRecDepth 100000 in
set_option maxHeartbeats 4000000 in
theorem sTouchB (a b : DSkyBlock) (w : World) (v : Bool) (hv : touchBB a b = v) (ha : SmallB a) (hb : SmallB b) :
    Calls Tryd.prog 32 #[vBlk a, vBlk b] w fun e w' => e = .returned (.bool v) ∧ Below w.heap.size w w' := by
  obtain ⟨x0, y0, x1, y1, lo, hi⟩ := a
  obtain ⟨x0', y0', x1', y1', lo', hi'⟩ := b
  obtain ⟨⟨a0, a0'⟩, ⟨a1, a1'⟩, ⟨a2, a2'⟩, ⟨a3, a3'⟩, ⟨a4, a4'⟩, a5, a5'⟩ := ha
  obtain ⟨⟨b0, b0'⟩, ⟨b1, b1'⟩, ⟨b2, b2'⟩, ⟨b3, b3'⟩, ⟨b4, b4'⟩, b5, b5'⟩ := hb
  simp only [vBlk, touchBB, spanT] at *
  have HB : Below w.heap.size w ((w.alloc (.cells #[.int .i64 x0, .int .i64 y0, .int .i64 x1, .int .i64 y1, .int .i64 lo, .int .i64 hi] 57)).alloc (.cells #[.int .i64 x0', .int .i64 y0', .int .i64 x1', .int .i64 y1', .int .i64 lo', .int .i64 hi'] 57)) := ((Below.refl _ _).alloc (Nat.le_refl _) _).alloc (by simp) _
  by_cases q0 : x0 ≤ x1' + 1
  rotate_left
  · have e : v = false := by rw [← hv]; simp [q0]; try omega
    subst e
    clear hv
    go_enter Tryd.func32, Tryd.ntmps32
    go_wp2
    go_ret
    exact ⟨rfl, HB⟩
  by_cases q1 : x0' ≤ x1 + 1
  rotate_left
  · have e : v = false := by rw [← hv]; simp [q0, q1]; try omega
    subst e
    clear hv
    go_enter Tryd.func32, Tryd.ntmps32
    go_wp2
    go_ret
    exact ⟨rfl, HB⟩
  by_cases q2 : y0 ≤ y1' + 1
  rotate_left
  · have e : v = false := by rw [← hv]; simp [q0, q1, q2]; try omega
    subst e
    clear hv
    go_enter Tryd.func32, Tryd.ntmps32
    go_wp2
    go_ret
    exact ⟨rfl, HB⟩
  by_cases q3 : y0' ≤ y1 + 1
  rotate_left
  · have e : v = false := by rw [← hv]; simp [q0, q1, q2, q3]; try omega
    subst e
    clear hv
    go_enter Tryd.func32, Tryd.ntmps32
    go_wp2
    go_ret
    exact ⟨rfl, HB⟩
  by_cases q4 : lo ≤ hi' + 1
  rotate_left
  · have e : v = false := by rw [← hv]; simp [q0, q1, q2, q3, q4]; try omega
    subst e
    clear hv
    go_enter Tryd.func32, Tryd.ntmps32
    go_wp2
    go_ret
    exact ⟨rfl, HB⟩
  by_cases q5 : lo' ≤ hi + 1
  rotate_left
  · have e : v = false := by rw [← hv]; simp [q0, q1, q2, q3, q4, q5]; try omega
    subst e
    clear hv
    go_enter Tryd.func32, Tryd.ntmps32
    go_wp2
    go_ret
    exact ⟨rfl, HB⟩
  have e : v = true := by rw [← hv]; simp [q0, q1, q2, q3, q4, q5]; try omega
  subst e
  clear hv
  go_enter Tryd.func32, Tryd.ntmps32
  go_wp2
  go_ret
  exact ⟨rfl, HB⟩

end Go.Proofs.YtnjbplcdfiddeaaDoor

/- DERIVED. impl.SkyTouch: its closures, skyFirstBlock over blocks: their walks (written by wip/tools/mk_to1.py). -/
namespace Go.Proofs.YtnjbplcdfiddeaaDoor
open Go.RowKit
set_option linter.unusedSimpArgs false
set_option linter.unusedVariables false

section
variable {P : Program} {ops : Array Oper} {md : Region.Mode} {Q : Exit → Act → World → Prop} {C : World → Prop}
/-- An operation that is not wanted. -/
theorem RC.skip {i : Nat} {oi : Oper} {n : Nat} {listed : Array Bool} {a : Act} {w : World} (hi : ops[i]? = some oi) (hs : Region.noSelect ops = true) (hf : Region.free md ops listed i = true) (hr : (Region.ready md ops listed).contains i = true)
    (hQ : ∀ c a w, Q (.panic c) (a.put oi.dst undef) w → Q (.panic c) a w) (hC : C w) (hw : Region.wanted oi (yielded ops a.tmps) = false)
    (h : RC P md ops C Q n (listed.setIfInBounds i true) (a.put oi.dst undef) w) : RC P md ops C Q (n + 1) listed a w :=
  ⟨wpAnyC_first hi (Region.noSelect_spec hs) hQ n listed a w (Region.free_spec hi hf) (by simpa using hr) (.inr ⟨hw, rfl⟩) hC h.out⟩
end

theorem mixedT : Tryd.prog.follows .mixedOrders = true := by kernel_rfl
theorem cell_of_heapT {w : World} {b : Nat} {cs : Array Value} {t : TypeId} (h : w.heap[b]? = some (.cells cs t (0, 0))) (i : Nat) : w.cell? ⟨b, i, none⟩ = cs[i]? := by
  unfold World.cell?
  simp only [h]
  rfl
theorem free_of_heapT {w : World} {b : Nat} {cs : Array Value} {t : TypeId} (h : w.heap[b]? = some (.cells cs t (0, 0))) (i : Nat) : w.frozen? ⟨b, i, none⟩ = false := by
  simp [World.frozen?, h]

def nmEq (a b : ByteArray) : Bool := a.toList == b.toList

/-- The box of a block. -/
def BlC (p : Nat) (b : DSkyBlock) (W : World) : Prop :=
  W.cell? ⟨p, 0, none⟩ = some (.int .i64 b.1) ∧ W.cell? ⟨p, 1, none⟩ = some (.int .i64 b.2.1) ∧ W.cell? ⟨p, 2, none⟩ = some (.int .i64 b.2.2.1) ∧ W.cell? ⟨p, 3, none⟩ = some (.int .i64 b.2.2.2.1) ∧ W.cell? ⟨p, 4, none⟩ = some (.int .i64 b.2.2.2.2.1) ∧ W.cell? ⟨p, 5, none⟩ = some (.int .i64 b.2.2.2.2.2)
theorem BlC.kept {p : Nat} {b : DSkyBlock} {w w' : World} (h : BlC p b w) (hb : w'.heap[p]? = w.heap[p]?) : BlC p b w' := by
  obtain ⟨h0, h1, h2, h3, h4, h5⟩ := h
  exact ⟨(World.cell?_of_block (w := w) hb).trans h0, (World.cell?_of_block (w := w) hb).trans h1, (World.cell?_of_block (w := w) hb).trans h2, (World.cell?_of_block (w := w) hb).trans h3, (World.cell?_of_block (w := w) hb).trans h4, (World.cell?_of_block (w := w) hb).trans h5⟩
theorem BlC.below {p n : Nat} {b : DSkyBlock} {w w' : World} (h : BlC p b w) (hb : Below n w w') (hn : p < n) : BlC p b w' := h.kept (hb.block p hn)

/-- A block of six cells. -/
def SixC (p : Nat) (W : World) : Prop := ∃ c0 c1 c2 c3 c4 c5 : Value, W.heap[p]? = some (.cells #[c0, c1, c2, c3, c4, c5] 57 (0, 0))

def TinC (r bb ob : Nat) (b : ByteArray) (one other : DSkyBlock) (W : World) : Prop :=
  BlC r other W ∧ W.cell? ⟨bb, 0, none⟩ = some (.string b) ∧ BlC ob one W ∧ SixC (r + 1) W
theorem TinC.below {r bb ob n : Nat} {b : ByteArray} {one other : DSkyBlock} {w w' : World} (h : TinC r bb ob b one other w) (hb : Below n w w') (h0 : r + 1 < n) (h1 : bb < n) (h2 : ob < n) : TinC r bb ob b one other w' := by
  obtain ⟨q0, q1, q2, c0, c1, c2, c3, c4, c5, q3⟩ := h
  exact ⟨q0.below hb (by omega), (hb.cell (p := ⟨bb, 0, none⟩) h1).trans q1, q2.below hb h2, c0, c1, c2, c3, c4, c5, (hb.block (r + 1) h0).trans q3⟩

/-- Six cells written. -/
def put6 (w : World) (p : Nat) (v0 v1 v2 v3 v4 v5 : Value) : World := (((((w.setCell ⟨p, 0, none⟩ v0).setCell ⟨p, 1, none⟩ v1).setCell ⟨p, 2, none⟩ v2).setCell ⟨p, 3, none⟩ v3).setCell ⟨p, 4, none⟩ v4).setCell ⟨p, 5, none⟩ v5
theorem put6_same {w : World} {p : Nat} {t : TypeId} {c0 c1 c2 c3 c4 c5 : Value} (h : w.heap[p]? = some (.cells #[c0, c1, c2, c3, c4, c5] t (0, 0))) (v0 v1 v2 v3 v4 v5 : Value) : (put6 w p v0 v1 v2 v3 v4 v5).heap[p]? = some (.cells #[v0, v1, v2, v3, v4, v5] t (0, 0)) := by
  have h0 := heap_setCell_same w p 0 _ t v0 h
  have h1 := heap_setCell_same _ p 1 _ t v1 h0
  have h2 := heap_setCell_same _ p 2 _ t v2 h1
  have h3 := heap_setCell_same _ p 3 _ t v3 h2
  have h4 := heap_setCell_same _ p 4 _ t v4 h3
  have h5 := heap_setCell_same _ p 5 _ t v5 h4
  refine Eq.trans h5 ?_
  simp
theorem put6_other (w : World) (p : Nat) (v0 v1 v2 v3 v4 v5 : Value) (k : Nat) (hk : k ≠ p) : (put6 w p v0 v1 v2 v3 v4 v5).heap[k]? = w.heap[k]? :=
  ((((((Below.heap_setCell _ ⟨p, 5, none⟩ v5 k hk).trans (Below.heap_setCell _ ⟨p, 4, none⟩ v4 k hk)).trans (Below.heap_setCell _ ⟨p, 3, none⟩ v3 k hk)).trans (Below.heap_setCell _ ⟨p, 2, none⟩ v2 k hk)).trans (Below.heap_setCell _ ⟨p, 1, none⟩ v1 k hk)).trans (Below.heap_setCell w ⟨p, 0, none⟩ v0 k hk))
theorem put6_below {n p : Nat} {w0 w : World} (h : Below n w0 w) (hp : n ≤ p) (v0 v1 v2 v3 v4 v5 : Value) : Below n w0 (put6 w p v0 v1 v2 v3 v4 v5) :=
  (((((h.setCell (p := ⟨p, 0, none⟩) hp v0).setCell (p := ⟨p, 1, none⟩) hp v1).setCell (p := ⟨p, 2, none⟩) hp v2).setCell (p := ⟨p, 3, none⟩) hp v3).setCell (p := ⟨p, 4, none⟩) hp v4).setCell (p := ⟨p, 5, none⟩) hp v5

set_option maxRecDepth 100000 in
set_option maxHeartbeats 1000000 in
theorem touchIn (nm b : ByteArray) (one other : DSkyBlock) (bb ob : Nat) (w : World) (hb : w.cell? ⟨bb, 0, none⟩ = some (.string b)) (hbb : bb < w.heap.size) (ho : BlC ob one w) (hob : ob < w.heap.size) (s1 : SmallB one) (s2 : SmallB other) :
    Calls Tryd.prog 35 #[.string nm, vBlk other, .pointer (some ⟨bb, 0, none⟩), .pointer (some ⟨ob, 0, none⟩)] w fun e w' => e = .returned (.tuple #[vBlk other, .bool (nmEq nm b && touchBB one other)]) ∧ Below w.heap.size w w' := by
  have HT := fun W => iBlocksTouch one other W s1 s2
  generalize touchBB one other = tv at *
  obtain ⟨w0, hw0⟩ : ∃ w0, w0 = (w.alloc (.cells #[.int .i64 other.1, .int .i64 other.2.1, .int .i64 other.2.2.1, .int .i64 other.2.2.2.1, .int .i64 other.2.2.2.2.1, .int .i64 other.2.2.2.2.2] 57)).alloc (.cells #[.int .i64 0, .int .i64 0, .int .i64 0, .int .i64 0, .int .i64 0, .int .i64 0] 57) := ⟨_, rfl⟩
  have hb0 : Below w.heap.size w w0 := by rw [hw0]; exact ((Below.refl _ _).alloc (Nat.le_refl _) _).alloc (by simp) _
  have hsz : Hid (w0.heap.size = w.heap.size + 2) := by rw [hw0]; show _ = _; simp
  have hC : TinC w.heap.size bb ob b one other w0 := by
    refine ⟨?_, (hb0.cell (p := ⟨bb, 0, none⟩) hbb).trans hb, ho.below hb0 hob, .int .i64 0, .int .i64 0, .int .i64 0, .int .i64 0, .int .i64 0, .int .i64 0, ?_⟩
    · rw [hw0]; exact ⟨by go_simp, by go_simp, by go_simp, by go_simp, by go_simp, by go_simp⟩
    · rw [hw0]
      have h := heap_alloc_new (w.alloc (.cells #[.int .i64 other.1, .int .i64 other.2.1, .int .i64 other.2.2.1, .int .i64 other.2.2.2.1, .int .i64 other.2.2.2.2.1, .int .i64 other.2.2.2.2.2] 57)) (.cells #[.int .i64 0, .int .i64 0, .int .i64 0, .int .i64 0, .int .i64 0, .int .i64 0] 57)
      rwa [World.size_alloc] at h
  have HC0 : TinC w.heap.size bb ob b one other w0.drew := hC.below (n := w0.heap.size) ((Below.refl _ _).drew) (by have := hsz.out; omega) (by have := hsz.out; omega) (by have := hsz.out; omega)
  have hle : w.heap.size + 2 ≤ w0.drew.heap.size := Nat.le_of_eq hsz.out.symm
  have hbd := hb0.drew
  obtain ⟨x0, y0, x1, y1, lo, hi⟩ := one
  obtain ⟨x0', y0', x1', y1', lo', hi'⟩ := other
  simp only [vBlk, nmEq] at *
  clear s1 s2 hC hb ho hsz hb0
  by_cases he : (nm.toList == b.toList) = true
  · rw [he]
    go_enter Tryd.func35, Tryd.ntmps35
    go_wp2_with fail
    rw [← hw0]
    clear hw0
    refine wp_region_RC (TinC w.heap.size bb ob b (x0, y0, x1, y1, lo, hi) (x0', y0', x1', y1', lo', hi')) mixedT ?_
    refine RC.take (i := 0) (v := .agg #[.int .i64 x0', .int .i64 y0', .int .i64 x1', .int .i64 y1', .int .i64 lo', .int .i64 hi']) rfl (by kernel_rfl) (by kernel_rfl) (by kernel_rfl) (fun _ _ _ h => h) HC0 (by kernel_rfl) ?yp0 ?rp0
    case yp0 => (intro W hW; clear HC0 hle hbd HT; obtain ⟨⟨a0, a1, a2, a3, a4, a5⟩, _⟩ := hW; simp only at a0 a1 a2 a3 a4 a5; go_simp)
    refine RC.take (i := 1) (v := .string nm) rfl (by kernel_rfl) (by kernel_rfl) (by kernel_rfl) (fun _ _ _ h => h) HC0 (by kernel_rfl) ?yp1 ?rp1
    case yp1 => (intro W hW; clear HC0 hle hbd HT; clear hW; go_simp)
    refine RC.take (i := 2) (v := .string b) rfl (by kernel_rfl) (by kernel_rfl) (by kernel_rfl) (fun _ _ _ h => h) HC0 (by kernel_rfl) ?yp2 ?rp2
    case yp2 => (intro W hW; clear HC0 hle hbd HT; obtain ⟨_, a6, _⟩ := hW; go_simp)
    refine RC.take (i := 3) (v := .bool true) rfl (by kernel_rfl) (by kernel_rfl) (by kernel_rfl) (fun _ _ _ h => h) HC0 (by kernel_rfl) ?yp3 ?rp3
    case yp3 => (intro W hW; clear HC0 hle hbd HT; clear hW; go_simp)
    refine RC.take (i := 4) (v := .bool true) rfl (by kernel_rfl) (by kernel_rfl) (by kernel_rfl) (fun _ _ _ h => h) HC0 (by kernel_rfl) ?yp4 ?rp4
    case yp4 => (intro W hW; clear HC0 hle hbd HT; clear hW; go_simp)
    refine RC.take (i := 5) (v := .agg #[.int .i64 x0, .int .i64 y0, .int .i64 x1, .int .i64 y1, .int .i64 lo, .int .i64 hi]) rfl (by kernel_rfl) (by kernel_rfl) (by kernel_rfl) (fun _ _ _ h => h) HC0 (by kernel_rfl) ?yp5 ?rp5
    case yp5 => (intro W hW; clear HC0 hle hbd HT; obtain ⟨_, _, ⟨b0, b1, b2, b3, b4, b5⟩, _⟩ := hW; simp only at b0 b1 b2 b3 b4 b5; go_simp)
    refine RC.take (i := 6) (v := .agg #[.int .i64 x0', .int .i64 y0', .int .i64 x1', .int .i64 y1', .int .i64 lo', .int .i64 hi']) rfl (by kernel_rfl) (by kernel_rfl) (by kernel_rfl) (fun _ _ _ h => h) HC0 (by kernel_rfl) ?yp6 ?rp6
    case yp6 => (intro W hW; clear HC0 hle hbd HT; obtain ⟨⟨a0, a1, a2, a3, a4, a5⟩, _⟩ := hW; simp only at a0 a1 a2 a3 a4 a5; go_simp)
    refine RC.want (i := 7) (by kernel_rfl) rfl (by kernel_rfl) (fun K hK => ?_)
    go_simp
    refine (HT _).mono ?_
    rintro e w1 ⟨rfl, hc⟩
    simp only
    have HC1 := HC0.below hc (by omega) (by omega) (by omega)
    have hle1 := Nat.le_trans hle hc.size
    have hbd1 := hbd.trans (hc.mono (by omega))
    clear hc HC0 hle hbd
    have HC0 := HC1
    have hle := hle1
    have hbd := hbd1
    refine hK _ _ HC1 ?_
    clear hK K HC1 hle1 hbd1
    refine RC.take (i := 8) (v := .bool tv) rfl (by kernel_rfl) (by kernel_rfl) (by kernel_rfl) (fun _ _ _ h => h) HC0 (by kernel_rfl) ?yp8 ?rp8
    case yp8 => (intro W hW; clear HC0 hle hbd HT; clear hW; go_simp)
    obtain ⟨k0, k1, k2, c0, c1, c2, c3, c4, c5, q3⟩ := HC0
    have z0 := cell_of_heapT q3 0
    have e0 := free_of_heapT q3 0
    have z1 := cell_of_heapT q3 1
    have e1 := free_of_heapT q3 1
    have z2 := cell_of_heapT q3 2
    have e2 := free_of_heapT q3 2
    have z3 := cell_of_heapT q3 3
    have e3 := free_of_heapT q3 3
    have z4 := cell_of_heapT q3 4
    have e4 := free_of_heapT q3 4
    have z5 := cell_of_heapT q3 5
    have e5 := free_of_heapT q3 5
    simp at z0 z1 z2 z3 z4 z5
    refine RC.want (i := 9) (by kernel_rfl) rfl (by kernel_rfl) (fun K hK => ?_)
    go_simp
    obtain ⟨w2, hw2⟩ : ∃ w2, w2 = put6 w1 (w.heap.size + 1) (.int .i64 x0') (.int .i64 y0') (.int .i64 x1') (.int .i64 y1') (.int .i64 lo') (.int .i64 hi') := ⟨_, rfl⟩
    have hR2 : w2.heap[w.heap.size + 1]? = some (.cells #[.int .i64 x0', .int .i64 y0', .int .i64 x1', .int .i64 y1', .int .i64 lo', .int .i64 hi'] 57 (0, 0)) := by rw [hw2]; exact put6_same q3 _ _ _ _ _ _
    have hO2 : ∀ k, k ≠ w.heap.size + 1 → w2.heap[k]? = w1.heap[k]? := fun k hk => by rw [hw2]; exact put6_other _ _ _ _ _ _ _ _ k hk
    have hB2 : Below w.heap.size w w2 := by rw [hw2]; exact put6_below hbd (by omega) _ _ _ _ _ _
    have HC2 : TinC w.heap.size bb ob b (x0, y0, x1, y1, lo, hi) (x0', y0', x1', y1', lo', hi') w2 := ⟨k0.kept (hO2 _ (by omega)), (World.cell?_of_block (w := w1) (hO2 bb (by omega))).trans k1, k2.kept (hO2 ob (by omega)), _, _, _, _, _, _, hR2⟩
    change K _ (put6 w1 (w.heap.size + 1) _ _ _ _ _ _)
    rw [← hw2]
    refine hK _ w2 HC2 ?_
    clear hK K hw2 z0 z1 z2 z3 z4 z5 e0 e1 e2 e3 e4 e5 k0 k1 k2 q3 hO2 hbd hle HT
    refine RC.take (i := 10) (v := .bool tv) rfl (by kernel_rfl) (by kernel_rfl) (by kernel_rfl) (fun _ _ _ h => h) HC2 (by kernel_rfl) ?yp10 ?rp10
    case yp10 => (intro W hW; clear hW; go_simp)
    refine RC.done (by kernel_rfl) ?_
    have y0 := cell_of_heapT hR2 0
    have y1 := cell_of_heapT hR2 1
    have y2 := cell_of_heapT hR2 2
    have y3 := cell_of_heapT hR2 3
    have y4 := cell_of_heapT hR2 4
    have y5 := cell_of_heapT hR2 5
    simp at y0 y1 y2 y3 y4 y5
    clear HC2 hR2
    go_wp2
    exact bodyPost_ret (v := .tuple #[.agg #[.int .i64 x0', .int .i64 y0', .int .i64 x1', .int .i64 y1', .int .i64 lo', .int .i64 hi'], .bool tv]) (by simp [results, Tryd.results35, go_sem, y0, y1, y2, y3, y4, y5]) rfl ⟨by simp, hB2⟩
  · have he : (nm.toList == b.toList) = false := by simpa using he
    rw [he]
    go_enter Tryd.func35, Tryd.ntmps35
    go_wp2_with fail
    rw [← hw0]
    clear hw0
    refine wp_region_RC (TinC w.heap.size bb ob b (x0, y0, x1, y1, lo, hi) (x0', y0', x1', y1', lo', hi')) mixedT ?_
    generalize w0.drew = w1 at *
    refine RC.take (i := 0) (v := .agg #[.int .i64 x0', .int .i64 y0', .int .i64 x1', .int .i64 y1', .int .i64 lo', .int .i64 hi']) rfl (by kernel_rfl) (by kernel_rfl) (by kernel_rfl) (fun _ _ _ h => h) HC0 (by kernel_rfl) ?yn0 ?rn0
    case yn0 => (intro W hW; clear HC0 hle hbd HT; obtain ⟨⟨a0, a1, a2, a3, a4, a5⟩, _⟩ := hW; simp only at a0 a1 a2 a3 a4 a5; go_simp)
    refine RC.take (i := 1) (v := .string nm) rfl (by kernel_rfl) (by kernel_rfl) (by kernel_rfl) (fun _ _ _ h => h) HC0 (by kernel_rfl) ?yn1 ?rn1
    case yn1 => (intro W hW; clear HC0 hle hbd HT; clear hW; go_simp)
    refine RC.take (i := 2) (v := .string b) rfl (by kernel_rfl) (by kernel_rfl) (by kernel_rfl) (fun _ _ _ h => h) HC0 (by kernel_rfl) ?yn2 ?rn2
    case yn2 => (intro W hW; clear HC0 hle hbd HT; obtain ⟨_, a6, _⟩ := hW; go_simp)
    refine RC.take (i := 3) (v := .bool false) rfl (by kernel_rfl) (by kernel_rfl) (by kernel_rfl) (fun _ _ _ h => h) HC0 (by kernel_rfl) ?yn3 ?rn3
    case yn3 => (intro W hW; clear HC0 hle hbd HT; clear hW; go_simp)
    refine RC.take (i := 4) (v := .bool false) rfl (by kernel_rfl) (by kernel_rfl) (by kernel_rfl) (fun _ _ _ h => h) HC0 (by kernel_rfl) ?yn4 ?rn4
    case yn4 => (intro W hW; clear HC0 hle hbd HT; clear hW; go_simp)
    refine RC.skip (i := 5) rfl (by kernel_rfl) (by kernel_rfl) (by kernel_rfl) (fun _ _ _ h => h) HC0 (by kernel_rfl) ?_
    refine RC.skip (i := 6) rfl (by kernel_rfl) (by kernel_rfl) (by kernel_rfl) (fun _ _ _ h => h) HC0 (by kernel_rfl) ?_
    refine RC.skip (i := 7) rfl (by kernel_rfl) (by kernel_rfl) (by kernel_rfl) (fun _ _ _ h => h) HC0 (by kernel_rfl) ?_
    refine RC.take (i := 8) (v := .bool false) rfl (by kernel_rfl) (by kernel_rfl) (by kernel_rfl) (fun _ _ _ h => h) HC0 (by kernel_rfl) ?yn8 ?rn8
    case yn8 => (intro W hW; clear HC0 hle hbd HT; clear hW; go_simp)
    obtain ⟨k0, k1, k2, c0, c1, c2, c3, c4, c5, q3⟩ := HC0
    have z0 := cell_of_heapT q3 0
    have e0 := free_of_heapT q3 0
    have z1 := cell_of_heapT q3 1
    have e1 := free_of_heapT q3 1
    have z2 := cell_of_heapT q3 2
    have e2 := free_of_heapT q3 2
    have z3 := cell_of_heapT q3 3
    have e3 := free_of_heapT q3 3
    have z4 := cell_of_heapT q3 4
    have e4 := free_of_heapT q3 4
    have z5 := cell_of_heapT q3 5
    have e5 := free_of_heapT q3 5
    simp at z0 z1 z2 z3 z4 z5
    refine RC.want (i := 9) (by kernel_rfl) rfl (by kernel_rfl) (fun K hK => ?_)
    go_simp
    obtain ⟨w2, hw2⟩ : ∃ w2, w2 = put6 w1 (w.heap.size + 1) (.int .i64 x0') (.int .i64 y0') (.int .i64 x1') (.int .i64 y1') (.int .i64 lo') (.int .i64 hi') := ⟨_, rfl⟩
    have hR2 : w2.heap[w.heap.size + 1]? = some (.cells #[.int .i64 x0', .int .i64 y0', .int .i64 x1', .int .i64 y1', .int .i64 lo', .int .i64 hi'] 57 (0, 0)) := by rw [hw2]; exact put6_same q3 _ _ _ _ _ _
    have hO2 : ∀ k, k ≠ w.heap.size + 1 → w2.heap[k]? = w1.heap[k]? := fun k hk => by rw [hw2]; exact put6_other _ _ _ _ _ _ _ _ k hk
    have hB2 : Below w.heap.size w w2 := by rw [hw2]; exact put6_below hbd (by omega) _ _ _ _ _ _
    have HC2 : TinC w.heap.size bb ob b (x0, y0, x1, y1, lo, hi) (x0', y0', x1', y1', lo', hi') w2 := ⟨k0.kept (hO2 _ (by omega)), (World.cell?_of_block (w := w1) (hO2 bb (by omega))).trans k1, k2.kept (hO2 ob (by omega)), _, _, _, _, _, _, hR2⟩
    change K _ (put6 w1 (w.heap.size + 1) _ _ _ _ _ _)
    rw [← hw2]
    refine hK _ w2 HC2 ?_
    clear hK K hw2 z0 z1 z2 z3 z4 z5 e0 e1 e2 e3 e4 e5 k0 k1 k2 q3 hO2 hbd hle HT
    refine RC.take (i := 10) (v := .bool false) rfl (by kernel_rfl) (by kernel_rfl) (by kernel_rfl) (fun _ _ _ h => h) HC2 (by kernel_rfl) ?yn10 ?rn10
    case yn10 => (intro W hW; clear hW; go_simp)
    refine RC.done (by kernel_rfl) ?_
    have y0 := cell_of_heapT hR2 0
    have y1 := cell_of_heapT hR2 1
    have y2 := cell_of_heapT hR2 2
    have y3 := cell_of_heapT hR2 3
    have y4 := cell_of_heapT hR2 4
    have y5 := cell_of_heapT hR2 5
    simp at y0 y1 y2 y3 y4 y5
    clear HC2 hR2
    go_wp2
    exact bodyPost_ret (v := .tuple #[.agg #[.int .i64 x0', .int .i64 y0', .int .i64 x1', .int .i64 y1', .int .i64 lo', .int .i64 hi'], .bool false]) (by simp [results, Tryd.results35, go_sem, y0, y1, y2, y3, y4, y5]) rfl ⟨by simp, hB2⟩

end Go.Proofs.YtnjbplcdfiddeaaDoor
