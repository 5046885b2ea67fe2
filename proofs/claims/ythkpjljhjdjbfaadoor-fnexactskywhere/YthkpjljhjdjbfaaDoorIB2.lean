/- DERIVED. (impl.skyChecker).sectorsOk: its walk. -/
import Derived.Test.YthkpjljhjdjbfaaDoorIB1
namespace Go.Proofs.YthkpjljhjdjbfaaDoor
open Go.RowKit Go.Maps
set_option linter.unusedSimpArgs false
set_option linter.unusedVariables false

set_option maxRecDepth 100000 in
set_option maxHeartbeats 2000000 in
theorem sectorsOk_any (W H L : Int) (a b : Value) (ao : Option Addr) (cap : Nat) (ss : List DSkySector) (d : Value) (w : World) (hW : 1 ≤ W ∧ W ≤ 16) (hH : 1 ≤ H ∧ H ≤ 16) (hL : 1 ≤ L ∧ L ≤ 6) (h : SliceAt vSkySector (old w) w ao cap ss) :
    Calls Tryd.prog 44 #[.agg #[.int .i64 W, .int .i64 H, .int .i64 L, a, b, .slice ao ss.length cap, d]] w fun e w' => (((SectorsOk W H L ss ∧ Covers W H L (allBlocks ss)) ∧ e = .returned (.bool true)) ∨ (¬ (SectorsOk W H L ss ∧ Covers W H L (allBlocks ss)) ∧ e = .returned (.bool false))) ∧ Below w.heap.size w w' := by
  have hb0 : Below w.heap.size w (w.alloc (.cells #[.int .i64 W, .int .i64 H, .int .i64 L, a, b, .slice ao ss.length cap, d] 86)) := (Below.refl _ _).alloc (Nat.le_refl _) _
  have hmm := @run_makeMap Tryd.prog
  obtain ⟨⟨hwh0, hwh1⟩, hwl0, hwl1⟩ := prod_bd hW hH hL
  go_enter Tryd.func44, Tryd.ntmps44
  go_wp2_with fail
  refine (names_SkySector ao cap ss _ (h.later hb0)).mono ?_
  rintro e w1 ⟨⟨hl, hnm, rfl⟩ | ⟨hno, rfl⟩, hb1⟩
  · have HNM : Hid (ss.length ≤ 6 ∧ NamesTo (fun x : DSkySector => x.1) ss ss.length) := ⟨hl, hnm⟩
    have hb2 : Below (w.heap.size + 1) (w.alloc (.cells #[.int .i64 W, .int .i64 H, .int .i64 L, a, b, .slice ao ss.length cap, d] 86)) w1 := hb1.mono (by simp)
    have hw1 : w.heap.size < w1.heap.size := by have := hb2.size; simp at this; omega
    have hT0 : Taken (w1.alloc (.map #[] 0)) w1.heap.size (SomeB (allBlocks (ss.take 0))) 0 := (Taken.made w1).same (fun s => ⟨fun h => h.elim, fun ⟨b, hb, _⟩ => by simp [allBlocks] at hb⟩)
    have hbm : Below (w.heap.size + 1) (w.alloc (.cells #[.int .i64 W, .int .i64 H, .int .i64 L, a, b, .slice ao ss.length cap, d] 86)) (w1.alloc (.map #[] 0)) := hb2.alloc (by omega) _
    have y5 := box_cellI hbm 5
    simp at y5
    clear hnm hb1 hb0
    go_wp2
    go_loopw [16] (fun i wr => ∃ (k m : Nat), k ≤ ss.length ∧ i = .int .i64 k ∧ Hid (SecsTo W H L ss k) ∧ Taken wr w1.heap.size (SomeB (allBlocks (ss.take k))) m ∧ Hid ((m : Int) = ((allBlocks (ss.take k)).map vol).sum) ∧ m ≤ 6144 * k ∧ Below (w.heap.size + 1) (w.alloc (.cells #[.int .i64 W, .int .i64 H, .int .i64 L, a, b, .slice ao ss.length cap, d] 86)) wr) (fun i _ => ss.length - (intOf i).toNat)
    case atStart => exact ⟨0, 0, Nat.zero_le _, rfl, fun j _ hj => by omega, hT0, by show _ = _; simp [allBlocks], by omega, hbm⟩
    case round =>
      clear hb2 y5 hbm hT0
      obtain ⟨k, m, hk, rfl, hpre, htk, hm, hmb, hb⟩ := hrel
      have hB := box_belowI hb
      have z0 := box_cellI hb 0
      have z1 := box_cellI hb 1
      have z2 := box_cellI hb 2
      have z3 := box_cellI hb 3
      have z4 := box_cellI hb 4
      have z5 := box_cellI hb 5
      have z6 := box_cellI hb 6
      simp at z0 z1 z2 z3 z4 z5 z6
      have hwz : w.heap.size < wr.heap.size := by have := hb.size; simp at this; omega
      by_cases hlt : k < ss.length
      · obtain ⟨b1, off, ao1, cap1, rfl, hok, c0, c1, q0, p1⟩ := elem_SkySector h hlt
        have f0 := (hB.cell (p := ⟨b1, off + k * 2, none⟩) hok).trans c0
        have f1 := (hB.cell (p := ⟨b1, off + k * 2 + 1, none⟩) hok).trans c1
        have hkI : (k : Int) < (ss.length : Int) := by omega
        have hbX : Below w.heap.size w (wr.alloc (.cells #[.string (ss[k]'hlt).1, .slice ao1 (ss[k]'hlt).2.length cap1] 74)) := hB.alloc hB.size _
        have HPRE : Hid (SecsTo W H L ss k) := hpre
        have HM : Hid ((m : Int) = ((allBlocks (ss.take k)).map vol).sum) := hm
        clear hpre hm c0 c1
        go_wp2_with fail
        refine (blocksOk_any W H L a b _ d ao1 cap1 (ss[k]'hlt).2 w1.heap.size m _ _ hW hH hL (p1.later hbX) (htk.alloc _) (by omega)).mono ?_
        rintro e w2 ⟨⟨rfl, hc, m', htk2, hm2⟩ | ⟨rfl, hc⟩, hg⟩
        · have HN : Hid (SecsTo W H L ss (k + 1)) := fun t ht h1 => by
            by_cases e : t = k
            · subst e; exact hc
            · exact HPRE.out t ht (by omega)
          have HT2 : Hid (Taken w2 w1.heap.size (SomeB (allBlocks (ss.take (k + 1)))) m') := htk2.same (fun s => by rw [all_take_snoc ss k hlt, someB_app])
          have HM2 : Hid ((m' : Int) = ((allBlocks (ss.take (k + 1))).map vol).sum) := by
            show _ = _
            rw [all_take_snoc ss k hlt, List.map_append, List.sum_append, hm2, HM.out]
          have hm6 : m' ≤ 6144 * (k + 1) := by
            have h1 := vols_bd hW.2 hH.2 hL.2 (ss[k]'hlt).2 (fun c hc2 => by
              obtain ⟨t, ht, rfl⟩ := List.getElem_of_mem hc2
              exact (hc.1.2.2 t ht).1)
            have h2 := hc.1.2.1
            omega
          have hb3 : Below (w.heap.size + 1) (w.alloc (.cells #[.int .i64 W, .int .i64 H, .int .i64 L, a, b, .slice (some ⟨b1, off, none⟩) ss.length cap, d] 86)) w2 := (hb.alloc (by omega) _).grown hg (by simp; omega) (fun j hj => by cases hj; omega)
          clear hc hg hbX htk2 hm2
          go_wp2
          go_roundw
          case rel => exact ⟨k + 1, m', by omega, by go_num, HN, HT2.out, HM2, hm6, hb3⟩
          case measure => simp [intOf]; omega
        · have HF : Hid (¬ (SectorsOk W H L ss ∧ Covers W H L (allBlocks ss))) := fun h => hc ((sectors_iff.1 h).1.2 k hlt hlt)
          have hb3 : Below w.heap.size w w2 := hbX.grown hg (by simp; omega) (fun j hj => by cases hj; omega)
          clear hc hg hbX
          go_wp2
          go_ret
          exact ⟨.inr ⟨HF.out, rfl⟩, hb3⟩
      · have hke : k = ss.length := by omega
        subst hke
        obtain ⟨D, hown, hsz, _⟩ := htk
        have hlen := fun ty => hown.len takenT ty
        rw [hsz] at hlen
        have HM : Hid ((m : Int) = ((allBlocks ss).map vol).sum) := by
          have := hm.out
          rw [List.take_length] at this
          exact this
        have HP : Hid (SecsTo W H L ss ss.length) := hpre
        have hm5 : m ≤ 40000 := by omega
        clear hpre hm hown hsz
        by_cases he : (m : Int) = W * H * L
        · have HY : Hid (SectorsOk W H L ss ∧ Covers W H L (allBlocks ss)) := sectors_iff.2 ⟨⟨HNM.out, HP.out⟩, by rw [← HM.out, he]⟩
          have heB : ((m : Int) == W * H * L) = true := by simp [he]
          clear he
          go_wp2
          go_ret
          exact ⟨.inl ⟨HY.out, by first | rfl | simp [*]⟩, hB⟩
        · have HY : Hid (¬ (SectorsOk W H L ss ∧ Covers W H L (allBlocks ss))) := fun h => he (by rw [HM.out]; exact (sectors_iff.1 h).2)
          have heB : ((m : Int) == W * H * L) = false := by simp [he]
          clear he
          go_wp2
          go_ret
          exact ⟨.inr ⟨HY.out, by first | rfl | simp [*]⟩, hB⟩
  · have HF : Hid (¬ (SectorsOk W H L ss ∧ Covers W H L (allBlocks ss))) := fun h => hno (sectors_iff.1 h).1.1
    have hb2 := hb0.trans (hb1.mono hb0.size)
    clear hno hb1
    go_wp2
    go_ret
    exact ⟨.inr ⟨HF.out, rfl⟩, hb2⟩

end Go.Proofs.YthkpjljhjdjbfaaDoor
