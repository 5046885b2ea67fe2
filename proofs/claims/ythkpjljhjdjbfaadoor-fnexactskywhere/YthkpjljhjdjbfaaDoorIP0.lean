/- DERIVED. (impl.skyChecker).pointsOk: its walk. -/
import Derived.Test.YthkpjljhjdjbfaaDoorIN1
namespace Go.Proofs.YthkpjljhjdjbfaaDoor
open Go.RowKit Go.Maps
set_option linter.unusedSimpArgs false
set_option linter.unusedVariables false

/-- The cells of the first k points, as spots of level 0. -/
def PtsAt (ps : List DSkyPoint) (k : Nat) (s : Spot) : Prop := ∃ j, ∃ h : j < ps.length, j < k ∧ s = ((ps[j]'h).2.1, (ps[j]'h).2.2, 0)
def PtsTo (W H : Int) (ps : List DSkyPoint) (k : Nat) : Prop := ∀ j (h : j < ps.length), j < k → InSky W H (ps[j]'h).2.1 (ps[j]'h).2.2 ∧ ¬ PtsAt ps j ((ps[j]'h).2.1, (ps[j]'h).2.2, 0)

theorem ptsAt_succ {ps : List DSkyPoint} {k : Nat} (h : k < ps.length) (s : Spot) : PtsAt ps (k + 1) s ↔ PtsAt ps k s ∨ s = ((ps[k]'h).2.1, (ps[k]'h).2.2, 0) := by
  constructor
  · rintro ⟨j, hj, h1, h2⟩
    by_cases e : j = k
    · subst e; exact .inr h2
    · exact .inl ⟨j, hj, by omega, h2⟩
  · rintro (⟨j, hj, h1, h2⟩ | h2)
    · exact ⟨j, hj, by omega, h2⟩
    · exact ⟨k, h, by omega, h2⟩

theorem pointsOk_iff {W H : Int} {ps : List DSkyPoint} : PointsOk W H ps ↔ (ps.length ≤ 16 ∧ NamesTo (fun x : DSkyPoint => x.1) ps ps.length) ∧ PtsTo W H ps ps.length := by
  constructor
  · intro h
    refine ⟨⟨h.1, fun j hj _ => ⟨(h.2 j hj).1, (h.2 j hj).2.1⟩⟩, fun j hj _ => ⟨⟨(h.2 j hj).2.2.1, (h.2 j hj).2.2.2.1⟩, ?_⟩⟩
    rintro ⟨i, hi, h1, h2⟩
    simp only [Prod.mk.injEq] at h2
    exact (h.2 j hj).2.2.2.2 i h1 ⟨h2.1.symm, h2.2.1.symm⟩
  · rintro ⟨⟨h1, h2⟩, h3⟩
    refine ⟨h1, fun i hi => ⟨(h2 i hi hi).1, (h2 i hi hi).2, (h3 i hi hi).1.1, (h3 i hi hi).1.2, ?_⟩⟩
    rintro k hk ⟨e1, e2⟩
    exact (h3 i hi hi).2 ⟨k, by omega, hk, by simp only [Prod.mk.injEq]; exact ⟨e1.symm, e2.symm, trivial⟩⟩

theorem inS_sky {W H x y : Int} (hW : W ≤ 16) (hH : H ≤ 16) (h : InSky W H x y) : InS (x, y, 0) := by
  unfold InSky InR at h
  unfold InS In64
  simp only
  omega

set_option maxRecDepth 100000 in
set_option maxHeartbeats 2000000 in
theorem pointsOk_any (W H L : Int) (ao : Option Addr) (cap : Nat) (ps : List DSkyPoint) (b c d : Value) (w : World) (hW : 1 ≤ W ∧ W ≤ 16) (hH : 1 ≤ H ∧ H ≤ 16) (h : SliceAt vSkyPoint (old w) w ao cap ps) :
    Calls Tryd.prog 42 #[.agg #[.int .i64 W, .int .i64 H, .int .i64 L, .slice ao ps.length cap, b, c, d]] w fun e w' => ((PointsOk W H ps ∧ e = .returned (.bool true)) ∨ (¬ PointsOk W H ps ∧ e = .returned (.bool false))) ∧ Below w.heap.size w w' := by
  have hb0 : Below w.heap.size w (w.alloc (.cells #[.int .i64 W, .int .i64 H, .int .i64 L, .slice ao ps.length cap, b, c, d] 86)) := (Below.refl _ _).alloc (Nat.le_refl _) _
  have hmm := @run_makeMap Tryd.prog
  go_enter Tryd.func42, Tryd.ntmps42
  go_wp2_with fail
  refine (names_SkyPoint ao cap ps _ (h.later hb0)).mono ?_
  rintro e w1 ⟨⟨hl, hnm, rfl⟩ | ⟨hno, rfl⟩, hb1⟩
  · have HNM : Hid (ps.length ≤ 16 ∧ NamesTo (fun x : DSkyPoint => x.1) ps ps.length) := ⟨hl, hnm⟩
    have hb2 : Below (w.heap.size + 1) (w.alloc (.cells #[.int .i64 W, .int .i64 H, .int .i64 L, .slice ao ps.length cap, b, c, d] 86)) w1 := hb1.mono (by simp)
    have y3 := box_cellI hb2 3
    simp at y3
    have hw1 : w.heap.size < w1.heap.size := by have := hb2.size; simp at this; omega
    have hT0 : Taken (w1.alloc (.map #[] 0)) w1.heap.size (PtsAt ps 0) 0 := (Taken.made w1).same (fun s => ⟨fun h => h.elim, fun ⟨j, _, h, _⟩ => by omega⟩)
    have hbm : Below (w.heap.size + 1) (w.alloc (.cells #[.int .i64 W, .int .i64 H, .int .i64 L, .slice ao ps.length cap, b, c, d] 86)) (w1.alloc (.map #[] 0)) := hb2.alloc (by omega) _
    have y3' := box_cellI hbm 3
    simp at y3'
    clear hnm hb1 hb0
    go_wp2
    go_loopw [16] (fun i wr => ∃ k : Nat, k ≤ ps.length ∧ i = .int .i64 k ∧ Hid (PtsTo W H ps k) ∧ Taken wr w1.heap.size (PtsAt ps k) k ∧ Below (w.heap.size + 1) (w.alloc (.cells #[.int .i64 W, .int .i64 H, .int .i64 L, .slice ao ps.length cap, b, c, d] 86)) wr) (fun i _ => ps.length - (intOf i).toNat)
    case atStart => exact ⟨0, Nat.zero_le _, rfl, fun j _ hj => by omega, hT0, hbm⟩
    case round =>
      clear hb2 y3 y3' hbm hT0
      obtain ⟨k, hk, rfl, hpre, htk, hb⟩ := hrel
      have hB := box_belowI hb
      have z0 := box_cellI hb 0
      have z1 := box_cellI hb 1
      have z2 := box_cellI hb 2
      have z3 := box_cellI hb 3
      have z4 := box_cellI hb 4
      have z5 := box_cellI hb 5
      have z6 := box_cellI hb 6
      simp at z0 z1 z2 z3 z4 z5 z6
      have hwz : w.heap.size < wr.heap.size := by have := hb.size; simp at this; omega
      by_cases hlt : k < ps.length
      · obtain ⟨b1, off, rfl, hok, c0, c1, c2, q0, q1, q2⟩ := elem_SkyPoint h hlt
        have f0 := (hB.cell (p := ⟨b1, off + k * 3, none⟩) hok).trans c0
        have f1 := (hB.cell (p := ⟨b1, off + k * 3 + 1, none⟩) hok).trans c1
        have f2 := (hB.cell (p := ⟨b1, off + k * 3 + 2, none⟩) hok).trans c2
        have hkI : (k : Int) < (ps.length : Int) := by omega
        have HPRE : Hid (PtsTo W H ps k) := hpre
        clear hpre c0 c1 c2
        by_cases hin : InSky W H (ps[k]'hlt).2.1 (ps[k]'hlt).2.2
        · have hyes := inSkyB_yes hin
          have hS := inS_sky hW.2 hH.2 hin
          have HIN : Hid (InSky W H (ps[k]'hlt).2.1 (ps[k]'hlt).2.2) := hin
          clear hin
          by_cases hat : PtsAt ps k ((ps[k]'hlt).2.1, (ps[k]'hlt).2.2, 0)
          · have HF : Hid (¬ PointsOk W H ps) := fun h => ((pointsOk_iff.1 h).2 k hlt hlt).2 hat
            have HAT : Hid (PtsAt ps k ((ps[k]'hlt).2.1, (ps[k]'hlt).2.2, 0)) := hat
            clear hat
            go_wp2_with fail
            refine (hasCell_any W H L _ _ _ _ _ _ _ hW hH).mono ?_
            rintro e w' ⟨rfl, rfl⟩
            go_wp2_with fail
            refine (take_old ((ps[k]'hlt).2.1, (ps[k]'hlt).2.2, 0) hS w1.heap.size k _ _ ((htk.alloc _).alloc _) (by omega) HAT.out).mono ?_
            rintro e w2 ⟨rfl, hg⟩
            have hb3 : Below w.heap.size w w2 := ((hB.alloc hB.size _).alloc (by simp; omega) _).grown hg (by simp; omega) (fun j hj => by cases hj; omega)
            clear hg
            go_wp2
            go_ret
            exact ⟨.inr ⟨HF.out, rfl⟩, hb3⟩
          · have HN : Hid (PtsTo W H ps (k + 1)) := fun j hj h1 => by
              by_cases e : j = k
              · subst e; exact ⟨HIN.out, hat⟩
              · exact HPRE.out j hj (by omega)
            have HAT : Hid (¬ PtsAt ps k ((ps[k]'hlt).2.1, (ps[k]'hlt).2.2, 0)) := hat
            clear hat
            go_wp2_with fail
            refine (hasCell_any W H L _ _ _ _ _ _ _ hW hH).mono ?_
            rintro e w' ⟨rfl, rfl⟩
            go_wp2_with fail
            refine (take_new ((ps[k]'hlt).2.1, (ps[k]'hlt).2.2, 0) hS w1.heap.size k _ _ ((htk.alloc _).alloc _) (by omega) HAT.out).mono ?_
            rintro e w2 ⟨rfl, htk2, hg⟩
            have hb3 : Below (w.heap.size + 1) (w.alloc (.cells #[.int .i64 W, .int .i64 H, .int .i64 L, .slice (some ⟨b1, off, none⟩) ps.length cap, b, c, d] 86)) w2 := ((hb.alloc (by omega) _).alloc (by simp; omega) _).grown hg (by simp; omega) (fun j hj => by cases hj; omega)
            have HT2 : Hid (Taken w2 w1.heap.size (PtsAt ps (k + 1)) (k + 1)) := htk2.same (fun s => (ptsAt_succ hlt s).symm)
            clear hg htk2
            go_wp2
            go_roundw
            case rel => exact ⟨k + 1, by omega, by go_num, HN, HT2.out, hb3⟩
            case measure => simp [intOf]; omega
        · have hno := inSkyB_no hin
          have HF : Hid (¬ PointsOk W H ps) := fun h => hin ((pointsOk_iff.1 h).2 k hlt hlt).1
          clear hin
          go_wp2_with fail
          refine (hasCell_any W H L _ _ _ _ _ _ _ hW hH).mono ?_
          rintro e w' ⟨rfl, rfl⟩
          go_wp2
          go_ret
          exact ⟨.inr ⟨HF.out, rfl⟩, (hB.alloc hB.size _).alloc (by simp; omega) _⟩
      · have hke : k = ps.length := by omega
        subst hke
        have HP : Hid (PointsOk W H ps) := pointsOk_iff.2 ⟨HNM.out, hpre.out⟩
        clear hpre
        go_wp2
        go_ret
        exact ⟨.inl ⟨HP.out, rfl⟩, hB⟩
  · have HF : Hid (¬ PointsOk W H ps) := fun h => hno (pointsOk_iff.1 h).1
    have hb2 := hb0.trans (hb1.mono hb0.size)
    clear hno hb1
    go_wp2
    go_ret
    exact ⟨.inr ⟨HF.out, rfl⟩, hb2⟩

end Go.Proofs.YthkpjljhjdjbfaaDoor
