/- DERIVED. (impl.skyChecker).runwaysOk: its walk. -/
import Derived.Test.YthkpjljhjdjbfaaDoorIN4
import Derived.Test.YthkpjljhjdjbfaaDoorIP0
import Derived.Test.YthkpjljhjdjbfaaDoorIT2
namespace Go.Proofs.YthkpjljhjdjbfaaDoor
open Go.RowKit Go.Maps
set_option linter.unusedSimpArgs false
set_option linter.unusedVariables false

/-- The cells of the first k runways, as spots of level 0. -/
def RwsAt (ps : List DSkyRunway) (k : Nat) (s : Spot) : Prop := ∃ j, ∃ h : j < ps.length, j < k ∧ s = ((ps[j]'h).2.1, (ps[j]'h).2.2.1, 0)
def RwsTo (W H : Int) (ps : List DSkyRunway) (k : Nat) : Prop := ∀ j (h : j < ps.length), j < k → HasRw W H (ps[j]'h).2.1 (ps[j]'h).2.2.1 (ps[j]'h).2.2.2 ∧ ¬ RwsAt ps j ((ps[j]'h).2.1, (ps[j]'h).2.2.1, 0)

theorem rwsAt_succ {ps : List DSkyRunway} {k : Nat} (h : k < ps.length) (s : Spot) : RwsAt ps (k + 1) s ↔ RwsAt ps k s ∨ s = ((ps[k]'h).2.1, (ps[k]'h).2.2.1, 0) := by
  constructor
  · rintro ⟨j, hj, h1, h2⟩
    by_cases e : j = k
    · subst e; exact .inr h2
    · exact .inl ⟨j, hj, by omega, h2⟩
  · rintro (⟨j, hj, h1, h2⟩ | h2)
    · exact ⟨j, hj, by omega, h2⟩
    · exact ⟨k, h, by omega, h2⟩

theorem runwaysOk_iff {W H : Int} {ps : List DSkyRunway} : RunwaysOk W H ps ↔ (ps.length ≤ 4 ∧ NamesTo (fun x : DSkyRunway => x.1) ps ps.length) ∧ RwsTo W H ps ps.length := by
  constructor
  · intro h
    refine ⟨⟨h.1, fun j hj _ => ⟨(h.2 j hj).1, (h.2 j hj).2.1⟩⟩, fun j hj _ => ⟨⟨(h.2 j hj).2.2.2.2.1, ⟨(h.2 j hj).2.2.1, (h.2 j hj).2.2.2.1⟩, ⟨(h.2 j hj).2.2.2.2.2.1, (h.2 j hj).2.2.2.2.2.2.1⟩⟩, ?_⟩⟩
    rintro ⟨i, hi, h1, h2⟩
    simp only [Prod.mk.injEq] at h2
    exact (h.2 j hj).2.2.2.2.2.2.2 i h1 ⟨h2.1.symm, h2.2.1.symm⟩
  · rintro ⟨⟨h1, h2⟩, h3⟩
    refine ⟨h1, fun i hi => ⟨(h2 i hi hi).1, (h2 i hi hi).2, (h3 i hi hi).1.2.1.1, (h3 i hi hi).1.2.1.2, (h3 i hi hi).1.1, (h3 i hi hi).1.2.2.1, (h3 i hi hi).1.2.2.2, ?_⟩⟩
    rintro k hk ⟨e1, e2⟩
    exact (h3 i hi hi).2 ⟨k, by omega, hk, by simp only [Prod.mk.injEq]; exact ⟨e1.symm, e2.symm, trivial⟩⟩

set_option maxRecDepth 100000 in
set_option maxHeartbeats 2000000 in
theorem runwaysOk_any (W H L : Int) (a b c : Value) (ao : Option Addr) (cap : Nat) (ps : List DSkyRunway) (w : World) (hW : 1 ≤ W ∧ W ≤ 16) (hH : 1 ≤ H ∧ H ≤ 16) (h : SliceAt vSkyRunway (old w) w ao cap ps) (hTL : TurnsLaid w) :
    Calls Tryd.prog 45 #[.agg #[.int .i64 W, .int .i64 H, .int .i64 L, a, b, c, .slice ao ps.length cap]] w fun e w' => ((RunwaysOk W H ps ∧ e = .returned (.bool true)) ∨ (¬ RunwaysOk W H ps ∧ e = .returned (.bool false))) ∧ Below w.heap.size w w' := by
  have hb0 : Below w.heap.size w (w.alloc (.cells #[.int .i64 W, .int .i64 H, .int .i64 L, a, b, c, .slice ao ps.length cap] 86)) := (Below.refl _ _).alloc (Nat.le_refl _) _
  have hmm := @run_makeMap Tryd.prog
  go_enter Tryd.func45, Tryd.ntmps45
  go_wp2_with fail
  refine (names_SkyRunway ao cap ps _ (h.later hb0)).mono ?_
  rintro e w1 ⟨⟨hl, hnm, rfl⟩ | ⟨hno, rfl⟩, hb1⟩
  · have HNM : Hid (ps.length ≤ 4 ∧ NamesTo (fun x : DSkyRunway => x.1) ps ps.length) := ⟨hl, hnm⟩
    have hb2 : Below (w.heap.size + 1) (w.alloc (.cells #[.int .i64 W, .int .i64 H, .int .i64 L, a, b, c, .slice ao ps.length cap] 86)) w1 := hb1.mono (by simp)
    have y3 := box_cellI hb2 6
    simp at y3
    have hw1 : w.heap.size < w1.heap.size := by have := hb2.size; simp at this; omega
    have hT0 : Taken (w1.alloc (.map #[] 0)) w1.heap.size (RwsAt ps 0) 0 := (Taken.made w1).same (fun s => ⟨fun h => h.elim, fun ⟨j, _, h, _⟩ => by omega⟩)
    have hbm : Below (w.heap.size + 1) (w.alloc (.cells #[.int .i64 W, .int .i64 H, .int .i64 L, a, b, c, .slice ao ps.length cap] 86)) (w1.alloc (.map #[] 0)) := hb2.alloc (by omega) _
    have y3' := box_cellI hbm 6
    simp at y3'
    clear hnm hb1 hb0
    go_wp2
    go_loopw [16] (fun i wr => ∃ k : Nat, k ≤ ps.length ∧ i = .int .i64 k ∧ Hid (RwsTo W H ps k) ∧ Taken wr w1.heap.size (RwsAt ps k) k ∧ Below (w.heap.size + 1) (w.alloc (.cells #[.int .i64 W, .int .i64 H, .int .i64 L, a, b, c, .slice ao ps.length cap] 86)) wr) (fun i _ => ps.length - (intOf i).toNat)
    case atStart => exact ⟨0, Nat.zero_le _, rfl, fun j _ hj => by omega, hT0, hbm⟩
    case round =>
      clear hb2 y3 y3' hbm hT0
      obtain ⟨k, hk, rfl, hpre, htk, hb⟩ := hrel
      have hB := box_belowI hb
      have z0 := box_cellI hb 0
      have z1 := box_cellI hb 1
      have z2 := box_cellI hb 2
      have z3 := box_cellI hb 3
      have z4 := box_cellI hb 4
      have z5 := box_cellI hb 5
      have z6 := box_cellI hb 6
      simp at z0 z1 z2 z3 z4 z5 z6
      have hwz : w.heap.size < wr.heap.size := by have := hb.size; simp at this; omega
      by_cases hlt : k < ps.length
      · obtain ⟨b1, off, rfl, hok, c0, c1, c2, c3, q0, q1, q2, q3⟩ := elem_SkyRunway h hlt
        have f0 := (hB.cell (p := ⟨b1, off + k * 4, none⟩) hok).trans c0
        have f1 := (hB.cell (p := ⟨b1, off + k * 4 + 1, none⟩) hok).trans c1
        have f2 := (hB.cell (p := ⟨b1, off + k * 4 + 2, none⟩) hok).trans c2
        have f3 := (hB.cell (p := ⟨b1, off + k * 4 + 3, none⟩) hok).trans c3
        have hbX : Below w.heap.size w (wr.alloc (.cells #[.string (ps[k]'hlt).1, .int .i64 (ps[k]'hlt).2.1, .int .i64 (ps[k]'hlt).2.2.1, .int .i64 (ps[k]'hlt).2.2.2] 83)) := hB.alloc hB.size _
        have hTX := hTL.later hbX
        have hkI : (k : Int) < (ps.length : Int) := by omega
        have HPRE : Hid (RwsTo W H ps k) := hpre
        clear hpre c0 c1 c2 c3
        by_cases hin : HasRw W H (ps[k]'hlt).2.1 (ps[k]'hlt).2.2.1 (ps[k]'hlt).2.2.2
        · have hS := inS_sky hW.2 hH.2 hin.2.1
          have HIN : Hid (HasRw W H (ps[k]'hlt).2.1 (ps[k]'hlt).2.2.1 (ps[k]'hlt).2.2.2) := hin
          clear hin
          by_cases hat : RwsAt ps k ((ps[k]'hlt).2.1, (ps[k]'hlt).2.2.1, 0)
          · have HF : Hid (¬ RunwaysOk W H ps) := fun h => ((runwaysOk_iff.1 h).2 k hlt hlt).2 hat
            have HAT : Hid (RwsAt ps k ((ps[k]'hlt).2.1, (ps[k]'hlt).2.2.1, 0)) := hat
            clear hat
            go_wp2_with fail
            refine (hasRunway_any W H L _ _ _ _ _ _ _ _ _ hW hH hTX).mono ?_
            rintro e w3 ⟨he, hb3⟩
            have he : e = .returned (.bool true) := by rcases he with ⟨_, h⟩ | ⟨h, _⟩; exact h; exact absurd HIN.out h
            subst he
            have hBX3 := hbX.trans (hb3.mono hbX.size)
            have hbk3 : Below (w.heap.size + 1) (w.alloc (.cells #[.int .i64 W, .int .i64 H, .int .i64 L, a, b, c, .slice (some ⟨b1, off, none⟩) ps.length cap] 86)) w3 := (hb.alloc (by omega) _).trans (hb3.mono (by simp; omega))
            have hw3 : wr.heap.size < w3.heap.size := by have := hb3.size; simp at this; omega
            have htk3 : Taken w3 w1.heap.size (RwsAt ps k) k := (htk.alloc _).below hb3 (htk.alloc _).lt
            have x1 : w3.cell? ⟨wr.heap.size, 1, none⟩ = some (.int .i64 (ps[k]'hlt).2.1) := (hb3.cell (p := ⟨wr.heap.size, 1, none⟩) (by simp)).trans (by go_simp)
            have x2 : w3.cell? ⟨wr.heap.size, 2, none⟩ = some (.int .i64 (ps[k]'hlt).2.2.1) := (hb3.cell (p := ⟨wr.heap.size, 2, none⟩) (by simp)).trans (by go_simp)
            clear hb3 z0 z1 z2 z3 z4 z5 z6 f0 f1 f2 f3
            go_wp2_with fail
            refine (take_old ((ps[k]'hlt).2.1, (ps[k]'hlt).2.2.1, 0) hS w1.heap.size k _ _ htk3 (by omega) HAT.out).mono ?_
            rintro e w4 ⟨rfl, hg⟩
            have hb4 : Below w.heap.size w w4 := hBX3.grown hg hBX3.size (fun j hj => by cases hj; omega)
            clear hg
            go_wp2
            go_ret
            exact ⟨.inr ⟨HF.out, rfl⟩, hb4⟩
          · have HN : Hid (RwsTo W H ps (k + 1)) := fun j hj h1 => by
              by_cases e : j = k
              · subst e; exact ⟨HIN.out, hat⟩
              · exact HPRE.out j hj (by omega)
            have HAT : Hid (¬ RwsAt ps k ((ps[k]'hlt).2.1, (ps[k]'hlt).2.2.1, 0)) := hat
            clear hat
            go_wp2_with fail
            refine (hasRunway_any W H L _ _ _ _ _ _ _ _ _ hW hH hTX).mono ?_
            rintro e w3 ⟨he, hb3⟩
            have he : e = .returned (.bool true) := by rcases he with ⟨_, h⟩ | ⟨h, _⟩; exact h; exact absurd HIN.out h
            subst he
            have hBX3 := hbX.trans (hb3.mono hbX.size)
            have hbk3 : Below (w.heap.size + 1) (w.alloc (.cells #[.int .i64 W, .int .i64 H, .int .i64 L, a, b, c, .slice (some ⟨b1, off, none⟩) ps.length cap] 86)) w3 := (hb.alloc (by omega) _).trans (hb3.mono (by simp; omega))
            have hw3 : wr.heap.size < w3.heap.size := by have := hb3.size; simp at this; omega
            have htk3 : Taken w3 w1.heap.size (RwsAt ps k) k := (htk.alloc _).below hb3 (htk.alloc _).lt
            have x1 : w3.cell? ⟨wr.heap.size, 1, none⟩ = some (.int .i64 (ps[k]'hlt).2.1) := (hb3.cell (p := ⟨wr.heap.size, 1, none⟩) (by simp)).trans (by go_simp)
            have x2 : w3.cell? ⟨wr.heap.size, 2, none⟩ = some (.int .i64 (ps[k]'hlt).2.2.1) := (hb3.cell (p := ⟨wr.heap.size, 2, none⟩) (by simp)).trans (by go_simp)
            clear hb3 z0 z1 z2 z3 z4 z5 z6 f0 f1 f2 f3
            go_wp2_with fail
            refine (take_new ((ps[k]'hlt).2.1, (ps[k]'hlt).2.2.1, 0) hS w1.heap.size k _ _ htk3 (by omega) HAT.out).mono ?_
            rintro e w4 ⟨rfl, htk4, hg⟩
            have hb4 : Below (w.heap.size + 1) (w.alloc (.cells #[.int .i64 W, .int .i64 H, .int .i64 L, a, b, c, .slice (some ⟨b1, off, none⟩) ps.length cap] 86)) w4 := hbk3.grown hg (by omega) (fun j hj => by cases hj; omega)
            have HT2 : Hid (Taken w4 w1.heap.size (RwsAt ps (k + 1)) (k + 1)) := htk4.same (fun s => (rwsAt_succ hlt s).symm)
            clear hg htk4
            go_wp2
            go_roundw
            case rel => exact ⟨k + 1, by omega, by go_num, HN, HT2.out, hb4⟩
            case measure => simp [intOf]; omega
        · have HIN : Hid (¬ HasRw W H (ps[k]'hlt).2.1 (ps[k]'hlt).2.2.1 (ps[k]'hlt).2.2.2) := hin
          have HF : Hid (¬ RunwaysOk W H ps) := fun h => hin ((runwaysOk_iff.1 h).2 k hlt hlt).1
          clear hin
          go_wp2_with fail
          refine (hasRunway_any W H L _ _ _ _ _ _ _ _ _ hW hH hTX).mono ?_
          rintro e w3 ⟨he, hb3⟩
          have he : e = .returned (.bool false) := by rcases he with ⟨h, _⟩ | ⟨_, h⟩; exact absurd h HIN.out; exact h
          subst he
          have hBX3 := hbX.trans (hb3.mono hbX.size)
          have hbk3 : Below (w.heap.size + 1) (w.alloc (.cells #[.int .i64 W, .int .i64 H, .int .i64 L, a, b, c, .slice (some ⟨b1, off, none⟩) ps.length cap] 86)) w3 := (hb.alloc (by omega) _).trans (hb3.mono (by simp; omega))
          have hw3 : wr.heap.size < w3.heap.size := by have := hb3.size; simp at this; omega
          clear hb3
          go_wp2
          go_ret
          exact ⟨.inr ⟨HF.out, rfl⟩, hBX3⟩
      · have hke : k = ps.length := by omega
        subst hke
        have HP : Hid (RunwaysOk W H ps) := runwaysOk_iff.2 ⟨HNM.out, hpre.out⟩
        clear hpre
        go_wp2
        go_ret
        exact ⟨.inl ⟨HP.out, rfl⟩, hB⟩
  · have HF : Hid (¬ RunwaysOk W H ps) := fun h => hno (runwaysOk_iff.1 h).1
    have hb2 := hb0.trans (hb1.mono hb0.size)
    clear hno hb1
    go_wp2
    go_ret
    exact ⟨.inr ⟨HF.out, rfl⟩, hb2⟩

end Go.Proofs.YthkpjljhjdjbfaaDoor
