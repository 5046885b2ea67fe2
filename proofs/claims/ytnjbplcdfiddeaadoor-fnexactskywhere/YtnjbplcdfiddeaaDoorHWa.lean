import Derived.Test.YtnjbplcdfiddeaaDoorSkySA
import Derived.Test.YtnjbplcdfiddeaaDoorIV0
import Derived.Test.YtnjbplcdfiddeaaDoorPQ0

/- DERIVED. A place within a block (impl.skyInBlock, spec.l5In); the sector of a place on plain data. -/
namespace Go.Proofs.YtnjbplcdfiddeaaDoor
open Go.RowKit
set_option linter.unusedSimpArgs false
set_option linter.unusedVariables false

/-- A place: X, Y, level. -/
abbrev DPlace := Int × Int × Int
def vPl (p : DPlace) : Value := .agg #[.int .i64 p.1, .int .i64 p.2.1, .int .i64 p.2.2]
def vBlk (b : DSkyBlock) : Value := .agg #[.int .i64 b.1, .int .i64 b.2.1, .int .i64 b.2.2.1, .int .i64 b.2.2.2.1, .int .i64 b.2.2.2.2.1, .int .i64 b.2.2.2.2.2]
instance (n lo hi : Int) : Decidable (InR n lo hi) := by unfold InR; infer_instance
def inB (b : DSkyBlock) (p : DPlace) : Bool := decide (InR p.1 b.1 b.2.2.1) && (decide (InR p.2.1 b.2.1 b.2.2.2.1) && decide (InR p.2.2 b.2.2.2.2.1 b.2.2.2.2.2))

theorem ifrom_b (n lo hi : Int) (w : World) (v : Bool) (h : decide (InR n lo hi) = v) :
    Calls Tryd.prog 57 #[.int .i64 n, .int .i64 lo, .int .i64 hi] w fun e w' => e = .returned (.bool v) ∧ w = w' := by
  subst h
  by_cases h : InR n lo hi
  · rw [decide_eq_true h]; exact from_yes n lo hi w h
  · rw [decide_eq_false h]; exact from_no n lo hi w h
theorem sin_b (n lo hi : Int) (w : World) (v : Bool) (h : decide (InR n lo hi) = v) :
    Calls Tryd.prog 41 #[.int .i64 n, .int .i64 lo, .int .i64 hi] w fun e w' => e = .returned (.bool v) ∧ w = w' := by
  subst h
  by_cases h : InR n lo hi
  · rw [decide_eq_true h]; exact (in_yes n lo hi w h).mono fun e w' ⟨a, b⟩ => ⟨a, b.symm⟩
  · rw [decide_eq_false h]; exact (in_no n lo hi w h).mono fun e w' ⟨a, b⟩ => ⟨a, b.symm⟩

set_option maxHeartbeats 1000000 in
theorem iInB (b : DSkyBlock) (p : DPlace) (w : World) :
    Calls Tryd.prog 26 #[vBlk b, vPl p] w fun e w' => e = .returned (.bool (inB b p)) ∧ Below w.heap.size w w' := by
  obtain ⟨x0, y0, x1, y1, lo, hi⟩ := b
  obtain ⟨x, y, l⟩ := p
  simp only [vBlk, vPl, inB]
  have HB : Below w.heap.size w ((w.alloc (.cells #[.int .i64 x0, .int .i64 y0, .int .i64 x1, .int .i64 y1, .int .i64 lo, .int .i64 hi] 57)).alloc (.cells #[.int .i64 x, .int .i64 y, .int .i64 l] 40)) := ((Below.refl _ _).alloc (Nat.le_refl _) _).alloc (by simp) _
  have H1 := fun w => ifrom_b x x0 x1 w _ rfl
  have H2 := fun w => ifrom_b y y0 y1 w _ rfl
  have H3 := fun w => ifrom_b l lo hi w _ rfl
  generalize decide (InR x x0 x1) = v1 at *
  generalize decide (InR y y0 y1) = v2 at *
  generalize decide (InR l lo hi) = v3 at *
  cases v1
  · go_enter Tryd.func26, Tryd.ntmps26
    go_wp2_with fail
    refine (H1 _).mono ?_
    rintro e w' ⟨rfl, rfl⟩
    go_wp2
    go_ret
    exact ⟨rfl, HB⟩
  · cases v2
    · go_enter Tryd.func26, Tryd.ntmps26
      go_wp2_with fail
      refine (H1 _).mono ?_
      rintro e w' ⟨rfl, rfl⟩
      clear H1
      go_wp2_with fail
      refine (H2 _).mono ?_
      rintro e w' ⟨rfl, rfl⟩
      go_wp2
      go_ret
      exact ⟨rfl, HB⟩
    · go_enter Tryd.func26, Tryd.ntmps26
      go_wp2_with fail
      refine (H1 _).mono ?_
      rintro e w' ⟨rfl, rfl⟩
      clear H1
      go_wp2_with fail
      refine (H2 _).mono ?_
      rintro e w' ⟨rfl, rfl⟩
      clear H2
      go_wp2_with fail
      refine (H3 _).mono ?_
      rintro e w' ⟨rfl, rfl⟩
      go_wp2
      go_ret
      exact ⟨rfl, HB⟩

set_option maxHeartbeats 1000000 in
theorem sInB (b : DSkyBlock) (p : DPlace) (w : World) :
    Calls Tryd.prog 47 #[vBlk b, vPl p] w fun e w' => e = .returned (.bool (inB b p)) ∧ Below w.heap.size w w' := by
  obtain ⟨x0, y0, x1, y1, lo, hi⟩ := b
  obtain ⟨x, y, l⟩ := p
  simp only [vBlk, vPl, inB]
  have HB : Below w.heap.size w ((w.alloc (.cells #[.int .i64 x0, .int .i64 y0, .int .i64 x1, .int .i64 y1, .int .i64 lo, .int .i64 hi] 57)).alloc (.cells #[.int .i64 x, .int .i64 y, .int .i64 l] 40)) := ((Below.refl _ _).alloc (Nat.le_refl _) _).alloc (by simp) _
  have H1 := fun w => sin_b x x0 x1 w _ rfl
  have H2 := fun w => sin_b y y0 y1 w _ rfl
  have H3 := fun w => sin_b l lo hi w _ rfl
  generalize decide (InR x x0 x1) = v1 at *
  generalize decide (InR y y0 y1) = v2 at *
  generalize decide (InR l lo hi) = v3 at *
  cases v1
  · go_enter Tryd.func47, Tryd.ntmps47
    go_wp2_with fail
    refine (H1 _).mono ?_
    rintro e w' ⟨rfl, rfl⟩
    go_wp2
    go_ret
    exact ⟨rfl, HB⟩
  · cases v2
    · go_enter Tryd.func47, Tryd.ntmps47
      go_wp2_with fail
      refine (H1 _).mono ?_
      rintro e w' ⟨rfl, rfl⟩
      clear H1
      go_wp2_with fail
      refine (H2 _).mono ?_
      rintro e w' ⟨rfl, rfl⟩
      go_wp2
      go_ret
      exact ⟨rfl, HB⟩
    · go_enter Tryd.func47, Tryd.ntmps47
      go_wp2_with fail
      refine (H1 _).mono ?_
      rintro e w' ⟨rfl, rfl⟩
      clear H1
      go_wp2_with fail
      refine (H2 _).mono ?_
      rintro e w' ⟨rfl, rfl⟩
      clear H2
      go_wp2_with fail
      refine (H3 _).mono ?_
      rintro e w' ⟨rfl, rfl⟩
      go_wp2
      go_ret
      exact ⟨rfl, HB⟩

/-- The first sector in which a place lies. -/
def whereOf (ss : List DSkySector) (p : DPlace) : Option ByteArray := (ss.find? fun s => s.2.any fun b => inB b p).map fun s => s.1
def whereV : Option ByteArray → Value
  | none => .tuple #[.string ⟨#[]⟩, .bool false]
  | some n => .tuple #[.string n, .bool true]
/-- The first k sectors have no such place. -/
def NoSec (ss : List DSkySector) (p : DPlace) (k : Nat) : Prop := ∀ j (h : j < ss.length), j < k → ((ss[j]'h).2.any fun b => inB b p) = false
def NoBlk (bs : List DSkyBlock) (p : DPlace) (k : Nat) : Prop := ∀ j (h : j < bs.length), j < k → inB (bs[j]'h) p = false
theorem noBlk_all {bs : List DSkyBlock} {p : DPlace} (h : NoBlk bs p bs.length) : (bs.any fun b => inB b p) = false := by
  rw [List.any_eq_false]
  intro b hb
  obtain ⟨i, hi, rfl⟩ := List.getElem_of_mem hb
  rw [h i hi hi]
  simp
theorem where_none {ss : List DSkySector} {p : DPlace} (h : NoSec ss p ss.length) : whereOf ss p = none := by
  unfold whereOf
  rw [List.find?_eq_none.2 ?_]
  · rfl
  · intro s hs
    obtain ⟨i, hi, rfl⟩ := List.getElem_of_mem hs
    rw [h i hi hi]
    simp
theorem where_some {ss : List DSkySector} {p : DPlace} {k m : Nat} (hk : k < ss.length) (h : NoSec ss p k) (hm : m < (ss[k]'hk).2.length) (hb : inB ((ss[k]'hk).2[m]'hm) p = true) : whereOf ss p = some (ss[k]'hk).1 := by
  unfold whereOf
  rw [(List.find?_eq_some_iff_getElem (b := ss[k]'hk)).2 ?_]
  · rfl
  · refine ⟨List.any_eq_true.2 ⟨_, List.getElem_mem hm, hb⟩, k, hk, rfl, fun j hj => ?_⟩
    rw [h j (by omega) hj]
    rfl

end Go.Proofs.YtnjbplcdfiddeaaDoor

/- DERIVED. impl.SkyWhere: its walk. -/
namespace Go.Proofs.YtnjbplcdfiddeaaDoor
open Go.RowKit
set_option linter.unusedSimpArgs false
set_option linter.unusedVariables false

/-- The box of a place. -/
def PlC (b : Nat) (p : DPlace) (W : World) : Prop := W.cell? ⟨b, 0, none⟩ = some (.int .i64 p.1) ∧ W.cell? ⟨b, 1, none⟩ = some (.int .i64 p.2.1) ∧ W.cell? ⟨b, 2, none⟩ = some (.int .i64 p.2.2)
theorem PlC.below {b m : Nat} {p : DPlace} {w w' : World} (h : PlC b p w) (hb : Below m w w') (hn : b < m) : PlC b p w' := by
  obtain ⟨h0, h1, h2⟩ := h
  exact ⟨(hb.cell (p := ⟨b, 0, none⟩) hn).trans h0, (hb.cell (p := ⟨b, 1, none⟩) hn).trans h1, (hb.cell (p := ⟨b, 2, none⟩) hn).trans h2⟩

set_option maxHeartbeats 1000000 in
theorem whereFn (nm : ByteArray) (b : DSkyBlock) (p : DPlace) (bp : Nat) (w : World) (hp : PlC bp p w) (hbp : bp < w.heap.size) :
    Calls Tryd.prog 25 #[.string nm, vBlk b, .pointer (some ⟨bp, 0, none⟩)] w fun e w' => e = .returned (.tuple #[.string nm, .bool (inB b p)]) ∧ Below w.heap.size w w' := by
  have HI := fun W => iInB b p W
  generalize inB b p = v at *
  obtain ⟨x0, y0, x1, y1, lo, hi⟩ := b
  obtain ⟨x, y, l⟩ := p
  have hp1 := hp.below ((Below.refl w.heap.size w).alloc (Nat.le_refl _) (.cells #[.int .i64 x0, .int .i64 y0, .int .i64 x1, .int .i64 y1, .int .i64 lo, .int .i64 hi] 57)) hbp
  obtain ⟨c0, c1, c2⟩ := hp1
  simp only [vBlk, vPl] at *
  go_enter Tryd.func25, Tryd.ntmps25
  go_wp2_with fail
  refine (HI _).mono ?_
  rintro e w1 ⟨rfl, hb1⟩
  go_wp2
  exact bodyPost_ret (v := .tuple #[.string nm, .bool v]) (by simp [results, Tryd.results25, go_sem]) rfl ⟨rfl, ((Below.refl w.heap.size w).alloc (Nat.le_refl _) _).trans (hb1.mono (by simp))⟩

set_option maxRecDepth 100000 in
set_option maxHeartbeats 2000000 in
theorem firstWhere (ao : Option Addr) (cap : Nat) (ss : List DSkySector) (p : DPlace) (bp : Nat) (w : World) (h : SliceAt vSkySector (old w) w ao cap ss) (hp : PlC bp p w) (hbp : bp < w.heap.size) :
    Calls Tryd.prog 24 #[.slice ao ss.length cap, .func (.func 25) #[] #[.pointer (some ⟨bp, 0, none⟩)]] w fun e w' => e = .returned (whereV (whereOf ss p)) ∧ Below w.heap.size w w' := by
  have hlen : ss.length ≤ maxLen := Nat.le_trans h.1 h.2.1
  unfold maxLen at hlen
  go_enter Tryd.func24, Tryd.ntmps24
  go_wp2
  go_loopw [15] (fun i wr => ∃ k : Nat, k ≤ ss.length ∧ i = .int .i64 k ∧ Hid (NoSec ss p k) ∧ Below w.heap.size w wr) (fun i _ => ss.length - (intOf i).toNat)
  case atStart => exact ⟨0, Nat.zero_le _, rfl, fun j _ hj => by omega, Below.refl _ _⟩
  case round =>
    obtain ⟨k, hk, rfl, hno, hB⟩ := hrel
    have hwz := hB.size
    by_cases hlt : k < ss.length
    · obtain ⟨b1, off, ao1, cap1, rfl, hok, c0, c1, q0, p1⟩ := elem_SkySector h hlt
      have f0 := (hB.cell (p := ⟨b1, off + k * 2, none⟩) hok).trans c0
      have f1 := (hB.cell (p := ⟨b1, off + k * 2 + 1, none⟩) hok).trans c1
      have hkI : (k : Int) < (ss.length : Int) := by omega
      have HSOME : Hid (∀ m (hm : m < (ss[k]'hlt).2.length), inB ((ss[k]'hlt).2[m]'hm) p = true → whereOf ss p = some (ss[k]'hlt).1) := fun m hm hb => where_some hlt hno.out hm hb
      have HNEXT : Hid (NoBlk (ss[k]'hlt).2 p (ss[k]'hlt).2.length → NoSec ss p (k + 1)) := fun h1 j hj h2 => by
        by_cases e : j = k
        · subst e; exact noBlk_all h1
        · exact hno.out j hj (by omega)
      have hlen1 : (ss[k]'hlt).2.length ≤ 9223372036854775807 := Nat.le_trans p1.1 p1.2.1
      generalize ss[k]'hlt = sk at *
      obtain ⟨nm, bs⟩ := sk
      simp only at f0 f1 p1 HSOME HNEXT q0 hlen1
      clear c0 c1 hno
      obtain ⟨wo, hwo⟩ : ∃ x, x = wr := ⟨_, rfl⟩
      subst hwo
      go_wp2
      go_loopw [22] (fun i wr => ∃ m : Nat, m ≤ bs.length ∧ i = .int .i64 m ∧ Hid (NoBlk bs p m) ∧ Below w.heap.size w wr ∧ wr.cell? ⟨wo.heap.size, 0, none⟩ = some (.string nm) ∧ wo.heap.size < wr.heap.size) (fun i _ => bs.length - (intOf i).toNat)
      case atStart => exact ⟨0, Nat.zero_le _, rfl, fun j _ hj => by omega, hB.alloc (by omega) _, by go_simp, by simp⟩
      case round =>
        obtain ⟨m, hm, rfl, hnb, hB2, hnm, hxs⟩ := hrel
        have hwz2 := hB2.size
        by_cases hltm : m < bs.length
        · obtain ⟨b2, off2, rfl, hok2, d0, d1, d2, d3, d4, d5, _, _, _, _, _, _⟩ := elem_SkyBlock p1 hltm
          have g0 := (hB2.cell (p := ⟨b2, off2 + m * 6, none⟩) hok2).trans d0
          have g1 := (hB2.cell (p := ⟨b2, off2 + m * 6 + 1, none⟩) hok2).trans d1
          have g2 := (hB2.cell (p := ⟨b2, off2 + m * 6 + 2, none⟩) hok2).trans d2
          have g3 := (hB2.cell (p := ⟨b2, off2 + m * 6 + 3, none⟩) hok2).trans d3
          have g4 := (hB2.cell (p := ⟨b2, off2 + m * 6 + 4, none⟩) hok2).trans d4
          have g5 := (hB2.cell (p := ⟨b2, off2 + m * 6 + 5, none⟩) hok2).trans d5
          have hmI : (m : Int) < (bs.length : Int) := by omega
          have HH : Hid (inB (bs[m]'hltm) p = true → whereOf ss p = some nm) := HSOME.out m hltm
          have HN : Hid (inB (bs[m]'hltm) p = false → NoBlk bs p (m + 1)) := fun hf j hj h2 => by
            by_cases e : j = m
            · subst e; exact hf
            · exact hnb.out j hj (by omega)
          generalize bs[m]'hltm = bk at *
          obtain ⟨x0, y0, x1, y1, lo, hi⟩ := bk
          simp only at g0 g1 g2 g3 g4 g5
          have hbx : Below w.heap.size w (wr.alloc (.cells #[.int .i64 x0, .int .i64 y0, .int .i64 x1, .int .i64 y1, .int .i64 lo, .int .i64 hi] 57)) := hB2.alloc (by omega) _
          have HF := whereFn nm (x0, y0, x1, y1, lo, hi) p bp _ (hp.below hbx hbp) (by have := hbx.size; omega)
          generalize inB (x0, y0, x1, y1, lo, hi) p = v at *
          simp only [vBlk] at HF
          clear d0 d1 d2 d3 d4 d5 hnb
          go_wp2_with fail
          refine HF.mono ?_
          rintro e w3 ⟨rfl, hb3⟩
          have hB3 := hbx.trans (hb3.mono (by simp; omega))
          have hnm3 : w3.cell? ⟨wo.heap.size, 0, none⟩ = some (.string nm) := (hb3.cell (p := ⟨wo.heap.size, 0, none⟩) (by simp; omega)).trans (by go_simp)
          have hs3 : wo.heap.size < w3.heap.size := by have := hb3.size; simp at this; omega
          clear HF hb3 hbx g0 g1 g2 g3 g4 g5
          cases v
          · have HN2 : Hid (NoBlk bs p (m + 1)) := HN.out rfl
            clear HN HH
            go_wp2
            go_roundw
            case rel => exact ⟨m + 1, by omega, by go_num, HN2, hB3, hnm3, hs3⟩
            case measure => simp [intOf]; omega
          · have HH2 : Hid (whereOf ss p = some nm) := HH.out rfl
            clear HN HH
            go_wp2
            exact bodyPost_ret (v := .tuple #[.string nm, .bool true]) (by simp [results, Tryd.results24, go_sem]) rfl ⟨by rw [HH2.out]; rfl, hB3⟩
        · have hme : m = bs.length := by omega
          subst hme
          have HN2 : Hid (NoSec ss p (k + 1)) := HNEXT.out hnb.out
          clear hnb HNEXT HSOME
          go_wp2
          go_roundw
          case rel => exact ⟨k + 1, by omega, by go_num, HN2, hB2⟩
          case measure => simp [intOf]; omega
    · have hke : k = ss.length := by omega
      subst hke
      have HE : Hid (whereOf ss p = none) := where_none hno.out
      clear hno
      go_wp2
      exact bodyPost_ret (v := .tuple #[.string ⟨#[]⟩, .bool false]) (by simp [results, Tryd.results24, go_sem]) rfl ⟨by rw [HE.out]; rfl, hB⟩

end Go.Proofs.YtnjbplcdfiddeaaDoor

/- DERIVED. impl.SkyWhere and spec.SkyWhere: their walks. -/
namespace Go.Proofs.YtnjbplcdfiddeaaDoor
open Go.RowKit
set_option linter.unusedSimpArgs false
set_option linter.unusedVariables false

noncomputable def validB (x : DSky) : Bool := @decide (ValidSky x) (Classical.propDecidable _)
theorem validB_iff {x : DSky} : validB x = true ↔ ValidSky x := by unfold validB; simp
theorem validB_of {x : DSky} {e : Ending} (h : (ValidSky x ∧ e = .returned (.bool true)) ∨ (¬ ValidSky x ∧ e = .returned (.bool false))) : e = .returned (.bool (validB x)) := by
  rcases h with ⟨h1, h2⟩ | ⟨h1, h2⟩
  · rw [h2, validB_iff.2 h1]
  · have : validB x = false := by
      cases hb : validB x
      · rfl
      · exact absurd (validB_iff.1 hb) h1
    rw [h2, this]
noncomputable def whereSky (x : DSky) (p : DPlace) : Option ByteArray := if validB x then whereOf x.2.2.2.2.2.1 p else none

set_option maxRecDepth 100000 in
set_option maxHeartbeats 2000000 in
theorem iWhere (x : DSky) (ao3 : Option Addr) (cap3 : Nat) (ao4 : Option Addr) (cap4 : Nat) (ao5 : Option Addr) (cap5 : Nat) (ao6 : Option Addr) (cap6 : Nat) (p : DPlace) (w : World) (h : SkyAt w x ao3 cap3 ao4 cap4 ao5 cap5 ao6 cap6) (hT : TurnsLaid w) :
    Calls Tryd.prog 9 #[.agg #[.int .i64 x.1, .int .i64 x.2.1, .int .i64 x.2.2.1, .slice ao3 x.2.2.2.1.length cap3, .slice ao4 x.2.2.2.2.1.length cap4, .slice ao5 x.2.2.2.2.2.1.length cap5, .slice ao6 x.2.2.2.2.2.2.length cap6], vPl p] w fun e w' => e = .returned (whereV (whereSky x p)) ∧ Below w.heap.size w w' := by
  obtain ⟨W, H, L, ps, aw, ss, rs⟩ := x
  obtain ⟨px, py, pl⟩ := p
  obtain ⟨w0, hw0⟩ : ∃ w0, w0 = (w.alloc (.cells #[.int .i64 W, .int .i64 H, .int .i64 L, .slice ao3 ps.length cap3, .slice ao4 aw.length cap4, .slice ao5 ss.length cap5, .slice ao6 rs.length cap6] 38)).alloc (.cells #[.int .i64 px, .int .i64 py, .int .i64 pl] 40) := ⟨_, rfl⟩
  have hb0 : Below w.heap.size w w0 := by rw [hw0]; exact ((Below.refl _ _).alloc (Nat.le_refl _) _).alloc (by simp) _
  have HV := iSkyValid (W, H, L, ps, aw, ss, rs) ao3 cap3 ao4 cap4 ao5 cap5 ao6 cap6 w0 (h.later hb0) (hT.later hb0)
  have hp0 : PlC (w.heap.size + 1) (px, py, pl) w0 := by rw [hw0]; exact ⟨by go_simp, by go_simp, by go_simp⟩
  have c5 : w0.cell? ⟨w.heap.size, 5, none⟩ = some (.slice ao5 ss.length cap5) := by rw [hw0]; go_simp
  have hsz : w0.heap.size = w.heap.size + 2 := by rw [hw0]; simp
  have h5 := (h.later hb0).p5
  have HWS : Hid (whereSky (W, H, L, ps, aw, ss, rs) (px, py, pl) = if validB (W, H, L, ps, aw, ss, rs) then whereOf ss (px, py, pl) else none) := rfl
  generalize whereSky (W, H, L, ps, aw, ss, rs) (px, py, pl) = r at *
  simp only [vPl] at HV h5 ⊢
  clear h hT
  rw [hw0] at HV
  go_enter Tryd.func9, Tryd.ntmps9
  go_wp2_with fail
  refine HV.mono ?_
  rw [← hw0]
  rintro e w1 ⟨he, hb1⟩
  have he := validB_of he
  subst he
  clear HV hw0
  have hB1 := hb0.trans (hb1.mono (by omega))
  have c5' := (hb1.cell (p := ⟨w.heap.size, 5, none⟩) (by show w.heap.size < _; omega)).trans c5
  have hp1 := hp0.below hb1 (by omega)
  have h51 := h5.later hb1
  have hs1 := hb1.size
  clear c5 hp0 h5 hb1
  generalize validB (W, H, L, ps, aw, ss, rs) = v at *
  cases v
  · have hr : Hid (r = none) := HWS.out
    clear HWS
    go_wp2
    exact bodyPost_ret (v := .tuple #[.string ⟨#[]⟩, .bool false]) (by simp [results, Tryd.results9, go_sem]) rfl ⟨by rw [hr.out]; rfl, hB1⟩
  · have hr : Hid (r = whereOf ss (px, py, pl)) := HWS.out
    clear HWS
    have HF := firstWhere ao5 cap5 ss (px, py, pl) (w.heap.size + 1) w1 h51 hp1 (by omega)
    go_wp2_with fail
    refine HF.mono ?_
    rintro e w2 ⟨rfl, hb2⟩
    have hB2 := hB1.trans (hb2.mono (by omega))
    rw [← hr.out]
    clear HF hb2
    cases r with
    | none =>
      simp only [whereV]
      go_wp2
      exact bodyPost_ret (v := .tuple #[.string ⟨#[]⟩, .bool false]) (by simp [results, Tryd.results9, go_sem]) rfl ⟨rfl, hB2⟩
    | some n =>
      simp only [whereV]
      go_wp2
      exact bodyPost_ret (v := .tuple #[.string n, .bool true]) (by simp [results, Tryd.results9, go_sem]) rfl ⟨rfl, hB2⟩

end Go.Proofs.YtnjbplcdfiddeaaDoor

/- DERIVED. spec.SkyWhere: its walk (written by wip/tools/mk_wh3.py). -/
namespace Go.Proofs.YtnjbplcdfiddeaaDoor
open Go.RowKit
set_option linter.unusedSimpArgs false
set_option linter.unusedVariables false

/-- The cells that the region reads. -/
def WhC (b b1 o1 b2 o2 : Nat) (v5 v1 : Value) (x0 y0 x1 y1 lo hi px py pl : Int) (W : World) : Prop :=
  W.cell? ⟨b, 5, none⟩ = some v5 ∧ W.cell? ⟨b1, o1, none⟩ = some v1 ∧ W.cell? ⟨b2, o2, none⟩ = some (.int .i64 x0) ∧ W.cell? ⟨b2, o2 + 1, none⟩ = some (.int .i64 y0) ∧ W.cell? ⟨b2, o2 + 2, none⟩ = some (.int .i64 x1) ∧ W.cell? ⟨b2, o2 + 3, none⟩ = some (.int .i64 y1) ∧ W.cell? ⟨b2, o2 + 4, none⟩ = some (.int .i64 lo) ∧ W.cell? ⟨b2, o2 + 5, none⟩ = some (.int .i64 hi) ∧ W.cell? ⟨b + 1, 0, none⟩ = some (.int .i64 px) ∧ W.cell? ⟨b + 1, 1, none⟩ = some (.int .i64 py) ∧ W.cell? ⟨b + 1, 2, none⟩ = some (.int .i64 pl)
theorem WhC.below {b b1 o1 b2 o2 n : Nat} {v5 v1 : Value} {x0 y0 x1 y1 lo hi px py pl : Int} {w w' : World} (h : WhC b b1 o1 b2 o2 v5 v1 x0 y0 x1 y1 lo hi px py pl w) (hb : Below n w w') (h0 : b + 1 < n) (h1 : b1 < n) (h2 : b2 < n) : WhC b b1 o1 b2 o2 v5 v1 x0 y0 x1 y1 lo hi px py pl w' := by
  obtain ⟨c0, c1, c2, c3, c4, c5, c6, c7, c8, c9, c10⟩ := h
  have hb' : b < n := by omega
  exact ⟨(hb.cell (p := ⟨b, 5, none⟩) hb').trans c0, (hb.cell (p := ⟨b1, o1, none⟩) h1).trans c1, (hb.cell (p := ⟨b2, o2, none⟩) h2).trans c2, (hb.cell (p := ⟨b2, o2 + 1, none⟩) h2).trans c3, (hb.cell (p := ⟨b2, o2 + 2, none⟩) h2).trans c4, (hb.cell (p := ⟨b2, o2 + 3, none⟩) h2).trans c5, (hb.cell (p := ⟨b2, o2 + 4, none⟩) h2).trans c6, (hb.cell (p := ⟨b2, o2 + 5, none⟩) h2).trans c7, (hb.cell (p := ⟨b + 1, 0, none⟩) h0).trans c8, (hb.cell (p := ⟨b + 1, 1, none⟩) h0).trans c9, (hb.cell (p := ⟨b + 1, 2, none⟩) h0).trans c10⟩

set_option maxRecDepth 100000 in
set_option maxHeartbeats 4000000 in
theorem sWhereIn (W H L : Int) (ps : List DSkyPoint) (aw : List DSkyAirway) (ss : List DSkySector) (rs : List DSkyRunway) (ao3 : Option Addr) (cap3 : Nat) (ao4 : Option Addr) (cap4 : Nat) (ao5 : Option Addr) (cap5 : Nat) (ao6 : Option Addr) (cap6 : Nat) (px py pl : Int) (w : World) (h : SliceAt vSkySector (old w) w ao5 cap5 ss) :
    Calls Tryd.prog 18 #[.agg #[.int .i64 W, .int .i64 H, .int .i64 L, .slice ao3 ps.length cap3, .slice ao4 aw.length cap4, .slice ao5 ss.length cap5, .slice ao6 rs.length cap6], .agg #[.int .i64 px, .int .i64 py, .int .i64 pl]] w fun e w' => e = .returned (whereV (whereOf ss (px, py, pl))) ∧ Below w.heap.size w w' := by
  have hlen : ss.length ≤ maxLen := Nat.le_trans h.1 h.2.1
  unfold maxLen at hlen
  obtain ⟨w0, hw0⟩ : ∃ w0, w0 = (w.alloc (.cells #[.int .i64 W, .int .i64 H, .int .i64 L, .slice ao3 ps.length cap3, .slice ao4 aw.length cap4, .slice ao5 ss.length cap5, .slice ao6 rs.length cap6] 38)).alloc (.cells #[.int .i64 px, .int .i64 py, .int .i64 pl] 40) := ⟨_, rfl⟩
  have hb0 : Below w.heap.size w w0 := by rw [hw0]; exact ((Below.refl _ _).alloc (Nat.le_refl _) _).alloc (by simp) _
  have q5 : w0.cell? ⟨w.heap.size, 5, none⟩ = some (.slice ao5 ss.length cap5) := by rw [hw0]; go_simp
  have qp : PlC (w.heap.size + 1) (px, py, pl) w0 := by rw [hw0]; exact ⟨by go_simp, by go_simp, by go_simp⟩
  have hsz : w0.heap.size = w.heap.size + 2 := by rw [hw0]; simp
  go_enter Tryd.func18, Tryd.ntmps18
  go_wp2_with fail
  rw [← hw0]
  clear hw0
  go_loopw [6] (fun i wr => ∃ k : Nat, k ≤ ss.length ∧ i = .int .i64 k ∧ Hid (NoSec ss (px, py, pl) k) ∧ Below w.heap.size w wr ∧ Below (w.heap.size + 2) w0 wr) (fun i _ => ss.length - (intOf i).toNat)
  case atStart => exact ⟨0, Nat.zero_le _, rfl, fun j _ hj => by omega, hb0, Below.refl _ _⟩
  case round =>
    obtain ⟨k, hk, rfl, hno, hB, hB0⟩ := hrel
    have hwz := hB0.size
    have z5 := (hB0.cell (p := ⟨w.heap.size, 5, none⟩) (by show w.heap.size < _; omega)).trans q5
    by_cases hlt : k < ss.length
    · obtain ⟨b1, off, ao1, cap1, rfl, hok, c0, c1, q0, p1⟩ := elem_SkySector h hlt
      have f0 := (hB.cell (p := ⟨b1, off + k * 2, none⟩) hok).trans c0
      have f1 := (hB.cell (p := ⟨b1, off + k * 2 + 1, none⟩) hok).trans c1
      have hkI : (k : Int) < (ss.length : Int) := by omega
      have HSOME : Hid (∀ m (hm : m < (ss[k]'hlt).2.length), inB ((ss[k]'hlt).2[m]'hm) (px, py, pl) = true → whereOf ss (px, py, pl) = some (ss[k]'hlt).1) := fun m hm hb => where_some hlt hno.out hm hb
      have HNEXT : Hid (NoBlk (ss[k]'hlt).2 (px, py, pl) (ss[k]'hlt).2.length → NoSec ss (px, py, pl) (k + 1)) := fun h1 j hj h2 => by
        by_cases e : j = k
        · subst e; exact noBlk_all h1
        · exact hno.out j hj (by omega)
      have hlen1 : (ss[k]'hlt).2.length ≤ 9223372036854775807 := Nat.le_trans p1.1 p1.2.1
      generalize ss[k]'hlt = sk at *
      obtain ⟨nm, bs⟩ := sk
      simp only at f0 f1 p1 HSOME HNEXT q0 hlen1 c0 c1
      clear hno
      obtain ⟨wo, hwo⟩ : ∃ x, x = wr := ⟨_, rfl⟩
      subst hwo
      go_wp2
      go_loopw [7] (fun i wr => ∃ m : Nat, m ≤ bs.length ∧ i = .int .i64 m ∧ Hid (NoBlk bs (px, py, pl) m) ∧ Below w.heap.size w wr ∧ Below (w.heap.size + 2) w0 wr) (fun i _ => bs.length - (intOf i).toNat)
      case atStart => exact ⟨0, Nat.zero_le _, rfl, fun j _ hj => by omega, hB, hB0⟩
      case round =>
        clear f0 f1 z5 hwz
        obtain ⟨m, hm, rfl, hnb, hB2, hB02⟩ := hrel
        have hwz2 := hB02.size
        have z5 := (hB02.cell (p := ⟨w.heap.size, 5, none⟩) (by show w.heap.size < _; omega)).trans q5
        have f0 := (hB2.cell (p := ⟨b1, off + k * 2, none⟩) hok).trans c0
        have f1 := (hB2.cell (p := ⟨b1, off + k * 2 + 1, none⟩) hok).trans c1
        by_cases hltm : m < bs.length
        · obtain ⟨b2, off2, rfl, hok2, d0, d1, d2, d3, d4, d5, _, _, _, _, _, _⟩ := elem_SkyBlock p1 hltm
          have g0 := (hB2.cell (p := ⟨b2, off2 + m * 6, none⟩) hok2).trans d0
          have g1 := (hB2.cell (p := ⟨b2, off2 + m * 6 + 1, none⟩) hok2).trans d1
          have g2 := (hB2.cell (p := ⟨b2, off2 + m * 6 + 2, none⟩) hok2).trans d2
          have g3 := (hB2.cell (p := ⟨b2, off2 + m * 6 + 3, none⟩) hok2).trans d3
          have g4 := (hB2.cell (p := ⟨b2, off2 + m * 6 + 4, none⟩) hok2).trans d4
          have g5 := (hB2.cell (p := ⟨b2, off2 + m * 6 + 5, none⟩) hok2).trans d5
          have gp := qp.below hB02 (by omega)
          have hmI : (m : Int) < (bs.length : Int) := by omega
          have HH : Hid (inB (bs[m]'hltm) (px, py, pl) = true → whereOf ss (px, py, pl) = some nm) := HSOME.out m hltm
          have HN : Hid (inB (bs[m]'hltm) (px, py, pl) = false → NoBlk bs (px, py, pl) (m + 1)) := fun hf j hj h2 => by
            by_cases e : j = m
            · subst e; exact hf
            · exact hnb.out j hj (by omega)
          generalize bs[m]'hltm = bk at *
          obtain ⟨x0, y0, x1, y1, lo, hi⟩ := bk
          simp only at g0 g1 g2 g3 g4 g5
          have HF := fun W => sInB (x0, y0, x1, y1, lo, hi) (px, py, pl) W
          generalize inB (x0, y0, x1, y1, lo, hi) (px, py, pl) = v at *
          simp only [vBlk, vPl] at HF
          have HC0 : WhC w.heap.size b1 (off + k * 2 + 1) b2 (off2 + m * 6) (.slice (some ⟨b1, off, none⟩) ss.length cap5) (.slice (some ⟨b2, off2, none⟩) bs.length cap1) x0 y0 x1 y1 lo hi px py pl wr.drew := WhC.below (n := wr.heap.size) ⟨z5, f1, g0, g1, g2, g3, g4, g5, gp.1, gp.2.1, gp.2.2⟩ ((Below.refl _ _).drew) (by omega) (Nat.lt_of_lt_of_le hok hB2.size) (Nat.lt_of_lt_of_le hok2 hB2.size)
          clear d0 d1 d2 d3 d4 d5 hnb
          go_wp2_with fail
          refine wp_region_RC (WhC w.heap.size b1 (off + k * 2 + 1) b2 (off2 + m * 6) (.slice (some ⟨b1, off, none⟩) ss.length cap5) (.slice (some ⟨b2, off2, none⟩) bs.length cap1) x0 y0 x1 y1 lo hi px py pl) mixedF ?_
          refine RC.take (i := 0) (v := ?va0) rfl (by kernel_rfl) (by kernel_rfl) (by kernel_rfl) (fun _ _ _ h => h) HC0 (by rfl) ?ya0 ?ra0
          case ya0 => (intro W hW; obtain ⟨c0, c1, c2, c3, c4, c5, c6, c7, c8, c9, c10⟩ := hW; go_simp; try with_reducible rfl)
          refine RC.take (i := 1) (v := ?va1) rfl (by kernel_rfl) (by kernel_rfl) (by kernel_rfl) (fun _ _ _ h => h) HC0 (by rfl) ?ya1 ?ra1
          case ya1 => (intro W hW; obtain ⟨c0, c1, c2, c3, c4, c5, c6, c7, c8, c9, c10⟩ := hW; go_simp; try with_reducible rfl)
          refine RC.take (i := 2) (v := ?va2) rfl (by kernel_rfl) (by kernel_rfl) (by kernel_rfl) (fun _ _ _ h => h) HC0 (by rfl) ?ya2 ?ra2
          case ya2 => (intro W hW; obtain ⟨c0, c1, c2, c3, c4, c5, c6, c7, c8, c9, c10⟩ := hW; go_simp; try with_reducible rfl)
          refine RC.take (i := 3) (v := ?va3) rfl (by kernel_rfl) (by kernel_rfl) (by kernel_rfl) (fun _ _ _ h => h) HC0 (by rfl) ?ya3 ?ra3
          case ya3 => (intro W hW; obtain ⟨c0, c1, c2, c3, c4, c5, c6, c7, c8, c9, c10⟩ := hW; go_simp; try with_reducible rfl)
          refine RC.take (i := 4) (v := ?va4) rfl (by kernel_rfl) (by kernel_rfl) (by kernel_rfl) (fun _ _ _ h => h) HC0 (by rfl) ?ya4 ?ra4
          case ya4 => (intro W hW; obtain ⟨c0, c1, c2, c3, c4, c5, c6, c7, c8, c9, c10⟩ := hW; go_simp; try with_reducible rfl)
          refine RC.take (i := 5) (v := ?va5) rfl (by kernel_rfl) (by kernel_rfl) (by kernel_rfl) (fun _ _ _ h => h) HC0 (by rfl) ?ya5 ?ra5
          case ya5 => (intro W hW; obtain ⟨c0, c1, c2, c3, c4, c5, c6, c7, c8, c9, c10⟩ := hW; go_simp; try with_reducible rfl)
          refine RC.take (i := 6) (v := ?va6) rfl (by kernel_rfl) (by kernel_rfl) (by kernel_rfl) (fun _ _ _ h => h) HC0 (by rfl) ?ya6 ?ra6
          case ya6 => (intro W hW; obtain ⟨c0, c1, c2, c3, c4, c5, c6, c7, c8, c9, c10⟩ := hW; go_simp; try with_reducible rfl)
          refine RC.take (i := 7) (v := ?va7) rfl (by kernel_rfl) (by kernel_rfl) (by kernel_rfl) (fun _ _ _ h => h) HC0 (by rfl) ?ya7 ?ra7
          case ya7 => (intro W hW; obtain ⟨c0, c1, c2, c3, c4, c5, c6, c7, c8, c9, c10⟩ := hW; go_simp; try with_reducible rfl)
          refine RC.take (i := 8) (v := ?va8) rfl (by kernel_rfl) (by kernel_rfl) (by kernel_rfl) (fun _ _ _ h => h) HC0 (by rfl) ?ya8 ?ra8
          case ya8 => (intro W hW; obtain ⟨c0, c1, c2, c3, c4, c5, c6, c7, c8, c9, c10⟩ := hW; go_simp; try with_reducible rfl)
          refine RC.take (i := 9) (v := ?va9) rfl (by kernel_rfl) (by kernel_rfl) (by kernel_rfl) (fun _ _ _ h => h) HC0 (by rfl) ?ya9 ?ra9
          case ya9 => (intro W hW; obtain ⟨c0, c1, c2, c3, c4, c5, c6, c7, c8, c9, c10⟩ := hW; go_simp; try with_reducible rfl)
          refine RC.want (i := 10) (by kernel_rfl) rfl (by rfl) (fun K hK => ?_)
          go_simp
          refine (HF _).mono ?_
          rintro e w3 ⟨rfl, hb3⟩
          simp only
          refine hK _ _ (HC0.below hb3 (by show w.heap.size + 1 < wr.heap.size; omega) (Nat.lt_of_lt_of_le hok hB2.size) (Nat.lt_of_lt_of_le hok2 hB2.size)) ?_
          clear hK K
          refine RC.done (by kernel_rfl) ?_
          have hB3 : Below w.heap.size w w3 := hB2.drew.trans (hb3.mono (by show w.heap.size ≤ wr.heap.size; omega))
          have hB03 : Below (w.heap.size + 2) w0 w3 := hB02.drew.trans (hb3.mono (by show w.heap.size + 2 ≤ wr.heap.size; omega))
          have hs3 := hB03.size
          have z53 := (hB03.cell (p := ⟨w.heap.size, 5, none⟩) (by show w.heap.size < _; omega)).trans q5
          have f03 := (hB3.cell (p := ⟨b1, off + k * 2, none⟩) hok).trans c0
          clear HF hb3 g0 g1 g2 g3 g4 g5 gp z5 f0 f1 HC0
          cases v
          · have HN2 : Hid (NoBlk bs (px, py, pl) (m + 1)) := HN.out rfl
            clear HN HH
            go_wp2
            go_roundw
            case rel => exact ⟨m + 1, by omega, by go_num, HN2, hB3, hB03⟩
            case measure => simp [intOf]; omega
          · have HH2 : Hid (whereOf ss (px, py, pl) = some nm) := HH.out rfl
            clear HN HH
            go_wp2
            exact bodyPost_ret (v := .tuple #[.string nm, .bool true]) (by simp [results, Tryd.results18, go_sem]) rfl ⟨by rw [HH2.out]; rfl, hB3⟩
        · have hme : m = bs.length := by omega
          subst hme
          have HN2 : Hid (NoSec ss (px, py, pl) (k + 1)) := HNEXT.out hnb.out
          clear hnb HNEXT HSOME
          go_wp2
          go_roundw
          case rel => exact ⟨k + 1, by omega, by go_num, HN2, hB2, hB02⟩
          case measure => simp [intOf]; omega
    · have hke : k = ss.length := by omega
      subst hke
      have HE : Hid (whereOf ss (px, py, pl) = none) := where_none hno.out
      clear hno
      go_wp2
      exact bodyPost_ret (v := .tuple #[.string ⟨#[]⟩, .bool false]) (by simp [results, Tryd.results18, go_sem]) rfl ⟨by rw [HE.out]; rfl, hB⟩

set_option maxRecDepth 100000 in
set_option maxHeartbeats 2000000 in
theorem sWhere (x : DSky) (ao3 : Option Addr) (cap3 : Nat) (ao4 : Option Addr) (cap4 : Nat) (ao5 : Option Addr) (cap5 : Nat) (ao6 : Option Addr) (cap6 : Nat) (p : DPlace) (w : World) (h : SkyAt w x ao3 cap3 ao4 cap4 ao5 cap5 ao6 cap6) :
    Calls Tryd.prog 6 #[.agg #[.int .i64 x.1, .int .i64 x.2.1, .int .i64 x.2.2.1, .slice ao3 x.2.2.2.1.length cap3, .slice ao4 x.2.2.2.2.1.length cap4, .slice ao5 x.2.2.2.2.2.1.length cap5, .slice ao6 x.2.2.2.2.2.2.length cap6], vPl p] w fun e w' => e = .returned (whereV (whereSky x p)) ∧ Below w.heap.size w w' := by
  obtain ⟨W, H, L, ps, aw, ss, rs⟩ := x
  obtain ⟨px, py, pl⟩ := p
  obtain ⟨w0, hw0⟩ : ∃ w0, w0 = (w.alloc (.cells #[.int .i64 W, .int .i64 H, .int .i64 L, .slice ao3 ps.length cap3, .slice ao4 aw.length cap4, .slice ao5 ss.length cap5, .slice ao6 rs.length cap6] 38)).alloc (.cells #[.int .i64 px, .int .i64 py, .int .i64 pl] 40) := ⟨_, rfl⟩
  have hb0 : Below w.heap.size w w0 := by rw [hw0]; exact ((Below.refl _ _).alloc (Nat.le_refl _) _).alloc (by simp) _
  have HV := sSkyValid (W, H, L, ps, aw, ss, rs) ao3 cap3 ao4 cap4 ao5 cap5 ao6 cap6 w0 (h.later hb0)
  have hp0 : PlC (w.heap.size + 1) (px, py, pl) w0 := by rw [hw0]; exact ⟨by go_simp, by go_simp, by go_simp⟩
  have k0 : w0.cell? ⟨w.heap.size, 0, none⟩ = some (.int .i64 W) := by rw [hw0]; go_simp
  have k1 : w0.cell? ⟨w.heap.size, 1, none⟩ = some (.int .i64 H) := by rw [hw0]; go_simp
  have k2 : w0.cell? ⟨w.heap.size, 2, none⟩ = some (.int .i64 L) := by rw [hw0]; go_simp
  have k3 : w0.cell? ⟨w.heap.size, 3, none⟩ = some (.slice ao3 ps.length cap3) := by rw [hw0]; go_simp
  have k4 : w0.cell? ⟨w.heap.size, 4, none⟩ = some (.slice ao4 aw.length cap4) := by rw [hw0]; go_simp
  have k5 : w0.cell? ⟨w.heap.size, 5, none⟩ = some (.slice ao5 ss.length cap5) := by rw [hw0]; go_simp
  have k6 : w0.cell? ⟨w.heap.size, 6, none⟩ = some (.slice ao6 rs.length cap6) := by rw [hw0]; go_simp
  have hsz : w0.heap.size = w.heap.size + 2 := by rw [hw0]; simp
  have h5 := (h.later hb0).p5
  have HWS : Hid (whereSky (W, H, L, ps, aw, ss, rs) (px, py, pl) = if validB (W, H, L, ps, aw, ss, rs) then whereOf ss (px, py, pl) else none) := rfl
  generalize whereSky (W, H, L, ps, aw, ss, rs) (px, py, pl) = r at *
  simp only [vPl] at HV h5 ⊢
  clear h
  rw [hw0] at HV
  go_enter Tryd.func6, Tryd.ntmps6
  go_wp2_with fail
  refine HV.mono ?_
  rw [← hw0]
  rintro e w1 ⟨he, hb1⟩
  have he := validB_of he
  subst he
  clear HV hw0
  have hB1 := hb0.trans (hb1.mono (by omega))
  have j0 := (hb1.cell (p := ⟨w.heap.size, 0, none⟩) (by show w.heap.size < _; omega)).trans k0
  have j1 := (hb1.cell (p := ⟨w.heap.size, 1, none⟩) (by show w.heap.size < _; omega)).trans k1
  have j2 := (hb1.cell (p := ⟨w.heap.size, 2, none⟩) (by show w.heap.size < _; omega)).trans k2
  have j3 := (hb1.cell (p := ⟨w.heap.size, 3, none⟩) (by show w.heap.size < _; omega)).trans k3
  have j4 := (hb1.cell (p := ⟨w.heap.size, 4, none⟩) (by show w.heap.size < _; omega)).trans k4
  have j5 := (hb1.cell (p := ⟨w.heap.size, 5, none⟩) (by show w.heap.size < _; omega)).trans k5
  have j6 := (hb1.cell (p := ⟨w.heap.size, 6, none⟩) (by show w.heap.size < _; omega)).trans k6
  have hp1 := hp0.below hb1 (by omega)
  obtain ⟨i0, i1, i2⟩ := hp1
  have h51 := h5.later hb1
  have hs1 := hb1.size
  clear k0 k1 k2 k3 k4 k5 k6 hp0 h5 hb1
  generalize validB (W, H, L, ps, aw, ss, rs) = v at *
  cases v
  · have hr : Hid (r = none) := HWS.out
    clear HWS
    go_wp2
    exact bodyPost_ret (v := .tuple #[.string ⟨#[]⟩, .bool false]) (by simp [results, Tryd.results6, go_sem]) rfl ⟨by rw [hr.out]; rfl, hB1⟩
  · have hr : Hid (r = whereOf ss (px, py, pl)) := HWS.out
    clear HWS
    have HF := sWhereIn W H L ps aw ss rs ao3 cap3 ao4 cap4 ao5 cap5 ao6 cap6 px py pl w1 h51
    go_wp2_with fail
    refine HF.mono ?_
    rintro e w2 ⟨rfl, hb2⟩
    have hB2 := hB1.trans (hb2.mono (by omega))
    rw [← hr.out]
    clear HF hb2
    cases r with
    | none =>
      simp only [whereV]
      go_wp2
      exact bodyPost_ret (v := .tuple #[.string ⟨#[]⟩, .bool false]) (by simp [results, Tryd.results6, go_sem]) rfl ⟨rfl, hB2⟩
    | some n =>
      simp only [whereV]
      go_wp2
      exact bodyPost_ret (v := .tuple #[.string n, .bool true]) (by simp [results, Tryd.results6, go_sem]) rfl ⟨rfl, hB2⟩

end Go.Proofs.YtnjbplcdfiddeaaDoor
