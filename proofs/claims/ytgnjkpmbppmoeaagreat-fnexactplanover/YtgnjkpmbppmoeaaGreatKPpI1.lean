/- DERIVED. impl.PlanPathOf: its walk (written by wip/tools/mk_ppi1.py). -/
import Derived.Test.YtgnjkpmbppmoeaaGreatKPpI0
import Derived.Test.YtgnjkpmbppmoeaaGreatKGVw
namespace Go.Proofs.YtgnjkpmbppmoeaaGreat
namespace Pth
open Go.RowKit Leg Pcl Go.Proofs.YtgnjkpmbppmoeaaGreat.Std Lev
set_option linter.unusedSimpArgs false
set_option linter.unusedVariables false

set_option maxRecDepth 100000 in
set_option maxHeartbeats 8000000 in
theorem iPathOf (bk : DPlanBook) (nm : ByteArray) (ao0 : Option Addr) (cap0 : Nat) (ao1 : Option Addr) (cap1 : Nat) (ao2 : Option Addr) (cap2 : Nat) (w : World) (p0 : SliceAt vPlanKind (old w) w ao0 cap0 bk.1.1) (p1 : SliceAt vPlanPoint (old w) w ao1 cap1 bk.1.2) (p2 : SliceAt vPlanEntry (old w) w ao2 cap2 bk.2) (hs : wPlanEntryS bk.2 ≤ 1048576) :
    Calls Tryz.prog 16 #[.agg #[.slice ao0 bk.1.1.length cap0, .slice ao1 bk.1.2.length cap1, .slice ao2 bk.2.length cap2], .string nm] w fun r w' => ∃ ao cap, r = .returned (.tuple #[.agg #[.slice ao (pathF bk nm).1.1.length cap, .int .i64 (pathF bk nm).1.2.1, .int .i64 (pathF bk nm).1.2.2], .int .i64 (pathF bk nm).2]) ∧
      w'.ownsRow w.heap.size 86 6 (.slice ao (pathF bk nm).1.1.length cap) (pathF bk nm).1.1.length (valsPlanStep (pathF bk nm).1.1) ∧ Below w.heap.size w w' := by
  have hbase : BaseAt w bk.1 ao0 cap0 ao1 cap1 := ⟨p0, p1⟩
  obtain ⟨wA, hwA⟩ : ∃ wA : World, wA = (w.alloc (.cells #[.slice ao0 bk.1.1.length cap0, .slice ao1 bk.1.2.length cap1, .slice ao2 bk.2.length cap2] 43)).alloc (.cells #[.slice none 0 0, .int .i64 0, .int .i64 0] 52) := ⟨_, rfl⟩
  have hzA : wA.heap.size = w.heap.size + 2 := by rw [hwA]; simp
  have hbA : Below w.heap.size w wA := by rw [hwA]; exact ((Below.refl _ _).alloc (Nat.le_refl _) _).alloc (by simp) _
  have hBB : BxC w.heap.size #[.slice ao0 bk.1.1.length cap0, .slice ao1 bk.1.2.length cap1, .slice ao2 bk.2.length cap2] wA := by rw [hwA]; exact (BxC.new w _ _).below ((Below.refl (w.heap.size + 1) _).alloc (by simp) _) (by omega)
  have hRB : Dr wA (w.heap.size + 1) [.slice none 0 0, .int .i64 0, .int .i64 0] := by
    have hd := Dr.new (w.alloc (.cells #[.slice ao0 bk.1.1.length cap0, .slice ao1 bk.1.2.length cap1, .slice ao2 bk.2.length cap2] 43)) #[.slice none 0 0, .int .i64 0, .int .i64 0] 52
    rw [World.size_alloc] at hd
    rw [hwA]; exact hd
  have HT := iBook bk ao0 cap0 ao1 cap1 ao2 cap2 wA (hbase.later hbA) (p2.later hbA) hs
  rw [hwA] at HT
  go_enter Tryz.func16, Tryz.ntmps16
  go_wp2_with fail
  refine HT.mono ?_
  rw [← hwA]
  rintro e w1 ⟨rfl, hb1⟩
  obtain ⟨rb, hrb⟩ : ∃ rb, w.heap.size + 1 = rb := ⟨_, rfl⟩
  rw [hrb] at hRB
  try simp only [hrb]
  have hrb1 : w.heap.size < rb ∧ rb < w.heap.size + 2 := by omega
  have hrb : w.heap.size ≤ rb := by omega
  clear HT hwA
  rw [hzA] at hb1
  have hB1 : Below w.heap.size w w1 := hbA.trans (hb1.mono (by omega))
  have hz1 : w.heap.size + 2 ≤ w1.heap.size := by have := hb1.size; omega
  have hBB1 := hBB.below hb1 (by omega)
  have hRB1 := hRB.kept (hb1.block _ hrb1.2) hb1.size
  clear hBB hRB hb1 hbA hzA
  by_cases g1 : BookOk bk
  · rw [pb_yes g1]
    have c0 := hBB1 0
    have c1 := hBB1 1
    have c2 := hBB1 2
    simp at c0 c1 c2
    have HT := iStandsF bk nm ao0 cap0 ao1 cap1 ao2 cap2 w1 (p0.later hB1) (p1.later hB1) (p2.later hB1) hs
    have HFN := stdF_fine bk nm
    have HRL := stdF_len bk nm
    have HP2 : Hid ((stdF bk nm).2 = false → pathF bk nm = (([], 0, 0), 2)) := path2 g1
    have HP3 : Hid ((stdF bk nm).2 = true → ¬ CellsOk bk.1 (stdF bk nm).1.2.2.2.2.2 → pathF bk nm = (([], 0, 0), 3)) := path3 g1
    have HP4 : Hid _ := fun h2 h3 => path4 (bk := bk) (nm := nm) g1 h2 h3
    have HP0 : Hid _ := fun h2 h3 => path0 (bk := bk) (nm := nm) g1 h2 h3
    have HCL : Hid (CellsOk bk.1 (stdF bk nm).1.2.2.2.2.2 → 1 ≤ (cellsF bk nm).length ∧ (cellsF bk nm).length ≤ 40) := cellsF_len
    have HCE : Hid (cellsF bk nm = cellsOf bk.1 (stdF bk nm).1.2.2.2.2.2) := rfl
    obtain ⟨F, hF⟩ : ∃ F, F = stdF bk nm := ⟨_, rfl⟩
    simp only [← hF] at HT HFN HRL HP2 HP3 HP4 HP0 HCL HCE
    clear hF
    go_wp2_with fail
    refine HT.mono ?_
    rintro e w2 ⟨fo, fc, rfl, hO2, hb2⟩
    have hTx := TxO.of_txt (txt_of_owns rfl hO2)
    have hB2 := hB1.trans (hb2.mono (by omega))
    have hz2 : w.heap.size + 2 ≤ w2.heap.size := Nat.le_trans hz1 hb2.size
    have hBB2 := hBB1.below hb2 (by omega)
    have hRB2 := hRB1.kept (hb2.block _ (by omega)) hb2.size
    clear HT hO2 hb2 hB1 hz1 hBB1 hRB1 c0 c1 c2
    obtain ⟨w3, hw3⟩ : ∃ w3 : World, w3 = w2.alloc (.cells #[.string F.1.1, .string F.1.2.1.1, .int .i64 F.1.2.1.2.1, .int .i64 F.1.2.1.2.2, .int .i64 F.1.2.2.1, .int .i64 F.1.2.2.2.1, .int .i64 F.1.2.2.2.2.1, .slice fo F.1.2.2.2.2.2.length fc] 34) := ⟨_, rfl⟩
    have hb3 : Below w2.heap.size w2 w3 := by rw [hw3]; exact (Below.refl _ _).alloc (Nat.le_refl _) _
    have hFB3 : BxC w2.heap.size #[.string F.1.1, .string F.1.2.1.1, .int .i64 F.1.2.1.2.1, .int .i64 F.1.2.1.2.2, .int .i64 F.1.2.2.1, .int .i64 F.1.2.2.2.1, .int .i64 F.1.2.2.2.2.1, .slice fo F.1.2.2.2.2.2.length fc] w3 := by rw [hw3]; exact BxC.new _ _ _
    have hz3 : w3.heap.size = w2.heap.size + 1 := by rw [hw3]; simp
    have hB3 := hB2.trans (hb3.mono (by omega))
    have hBB3 := hBB2.below hb3 (by omega)
    have hRB3 := hRB2.kept (hb3.block _ (by omega)) hb3.size
    have hTx3 := hTx.later hb3
    by_cases g2 : F.2 = true
    · rw [g2]
      have HF2 := HFN g2
      have y0 := hBB2 0
      have y1 := hBB2 1
      simp at y0 y1
      have yl : w.heap.size < w2.heap.size := by omega
      have HT := iCells bk.1 ao0 cap0 ao1 cap1 fo fc F.1.2.2.2.2.2 w3 (hbase.later hB3) hTx3 (by omega)
      unfold GivesC at HT
      rw [hw3] at HT
      clear HP2
      go_wp2_with fail
      refine HT.mono ?_
      rw [← hw3]
      rintro e w4 ⟨co, cc, rfl, hO4, hb4⟩
      clear HT hw3 y0 y1 yl hTx hTx3
      have hB4 := hB3.trans (hb4.mono (by omega))
      have hz4 : w2.heap.size + 1 ≤ w4.heap.size := by have := hb4.size; omega
      have hFB4 := hFB3.below hb4 (by omega)
      have hRB4 := hRB3.kept (hb4.block _ (by omega)) hb4.size
      have hCA := atPlanCell_owns hO4
      have hcc : (cellsOf bk.1 F.1.2.2.2.2.2).length ≤ cc ∧ cc ≤ maxLen := by
        rcases hO4.2 with ⟨h1, _⟩ | ⟨_, c3, _, h1, _, _, h2, h3, _⟩
        · injection h1 with _ e2 e3
          unfold maxLen; omega
        · injection h1 with _ _ e3
          subst e3
          exact ⟨h2, h3⟩
      clear hO4 hb4 hB2 hB3 hBB2 hBB3 hRB2 hRB3 hFB3 hb3
      by_cases g3 : CellsOk bk.1 F.1.2.2.2.2.2
      · rw [pb_yes g3]
        have hcl := HCL.out g3
        rw [HCE.out] at hcl
        have HP4' := HP4.out g2 g3
        have HP0' := HP0.out g2 g3
        rw [HCE.out] at HP4' HP0'
        have HP4 : Hid _ := HP4'
        have HP0 : Hid _ := HP0'
        generalize cellsOf bk.1 F.1.2.2.2.2.2 = cs at *
        have hz4' : w.heap.size ≤ w4.heap.size := by omega
        have HT := iAlongP F.1 co cc cs fo fc w4 HF2 hCA hcl.1 hcl.2 hcc
        have f0 := hFB4 0
        have f1 := hFB4 1
        have f2 := hFB4 2
        have f3 := hFB4 3
        have f4 := hFB4 4
        have f5 := hFB4 5
        have f6 := hFB4 6
        have f7 := hFB4 7
        simp at f0 f1 f2 f3 f4 f5 f6 f7
        clear HP3 HCL HCE g1 g3 HFN HP4' HP0' hCA
        go_wp2_with fail
        refine HT.mono ?_
        rintro e w5 ⟨g5, c5, rfl, hO5, hb5⟩
        have hB5 := hB4.trans (hb5.mono (by omega))
        have hRB5 := hRB4.kept (hb5.block _ (by omega)) hb5.size
        have hg5 : ∀ g, w4.heap.size ≤ g → g ≠ rb := fun g h => by omega
        clear HT f0 f1 f2 f3 f4 f5 f6 f7 hFB4 hRB4 hb5 hB4
        have hz5 : w.heap.size < w5.heap.size := by have := hRB5.lt; omega
        by_cases g4 : F.1.2.2.2.1 + (cs.length : Int) * F.1.2.1.2.2 > 10000
        · have HP4b : Hid (pathF bk nm = (([], 0, 0), 4)) := HP4.out g4
          have g4' : (10000 : Int) < F.1.2.2.2.1 + (cs.length : Int) * F.1.2.1.2.2 := g4
          clear HP4 HP0 g4
          generalize F.1.2.2.2.1 + (cs.length : Int) * F.1.2.1.2.2 = ub at *
          generalize F.1.2.2.1 + (cs.length : Int) * F.1.2.1.2.1 = lb at *
          have r0 := hRB5.c 0
          have r1 := hRB5.c 1
          have r2 := hRB5.c 2
          have q0 := hRB5.f 0
          have q1 := hRB5.f 1
          have q2 := hRB5.f 2
          have rl := hRB5.lt
          simp at r0 r1 r2
          have HP : Hid (pathF bk nm = (([], 0, 0), 4)) := HP4b.out
          clear hO5 hg5
          go_wp2
          refine bodyPost_ret (v := .tuple #[.agg #[.slice none 0 0, .int .i64 0, .int .i64 0], .int .i64 4]) (by simp [results, Tryz.results16, go_sem, r0, r1, r2, rl]) rfl ?_
          refine ⟨none, 0, by rw [HP.out]; rfl, by rw [HP.out]; exact World.ownsRow_nil _ _ _ _, ?_⟩
          repeat' first
            | exact hB5
            | exact Below.setCell (by repeat' first | exact hB5 | (refine Below.setCell ?_ hrb _) | (refine Below.alloc ?_ (by simp; omega) _)) hrb _
            | exact Below.alloc (by repeat' first | exact hB5 | (refine Below.setCell ?_ hrb _) | (refine Below.alloc ?_ (by simp; omega) _)) (by simp; omega) _
        · have HP0b : Hid _ := HP0.out (by omega)
          have g4' : F.1.2.2.2.1 + (cs.length : Int) * F.1.2.1.2.2 ≤ (10000 : Int) := by omega
          clear HP4 HP0 g4
          have hls := stepsL_len F.1.2.2.1 F.1.2.2.2.1 F.1.2.1.2.1 F.1.2.1.2.2 F.1.2.2.2.2.1 cs cs.length
          generalize stepsL F.1.2.2.1 F.1.2.2.2.1 F.1.2.1.2.1 F.1.2.1.2.2 F.1.2.2.2.2.1 cs cs.length = SL at *
          generalize F.1.2.2.2.1 + (cs.length : Int) * F.1.2.1.2.2 = ub at *
          generalize F.1.2.2.1 + (cs.length : Int) * F.1.2.1.2.1 = lb at *
          have r0 := hRB5.c 0
          have r1 := hRB5.c 1
          have r2 := hRB5.c 2
          have q0 := hRB5.f 0
          have q1 := hRB5.f 1
          have q2 := hRB5.f 2
          have rl := hRB5.lt
          simp at r0 r1 r2
          have HLS : Hid (SL.length = cs.length) := hls
          have HO5 : Hid _ := hO5
          have HB5 : Hid _ := hB5
          have HG5 : Hid _ := hg5
          clear hls hO5 hB5 hg5
          go_wp2
          refine bodyPost_ret (v := .tuple #[.agg #[.slice (some ⟨g5, 0, none⟩) cs.length c5, .int .i64 lb, .int .i64 ub], .int .i64 0]) (by simp [results, Tryz.results16, go_sem, r0, r1, r2, rl]) rfl ?_
          refine ⟨some ⟨g5, 0, none⟩, c5, by rw [HP0b.out]; show _ = Ending.returned (.tuple #[.agg #[.slice _ SL.length _, _, _], _]); rw [HLS.out], ?_, by repeat' first | exact HB5.out | (refine Below.setCell ?_ hrb _) | (refine Below.alloc ?_ (by simp; omega) _)⟩
          rw [HP0b.out]
          show World.ownsRow _ _ _ _ (.slice _ SL.length _) SL.length _
          rw [HLS.out]
          refine own_lo (owns_kept (HO5.out) (fun g h1 h2 => ?_)) hz4'
          have hne := HG5.out g h1
          rw [Below.heap_alloc _ _ _ (by simpa using h2), Below.heap_setCell _ _ _ _ hne, Below.heap_setCell _ _ _ _ hne, Below.heap_setCell _ _ _ _ hne]
      · rw [pb_no g3]
        have r0 := hRB4.c 0
        have r1 := hRB4.c 1
        have r2 := hRB4.c 2
        have q0 := hRB4.f 0
        have q1 := hRB4.f 1
        have q2 := hRB4.f 2
        have rl := hRB4.lt
        simp at r0 r1 r2
        have HP : Hid (pathF bk nm = (([], 0, 0), 3)) := HP3.out g2 g3
        clear hFB4 hRB4
        go_wp2
        refine bodyPost_ret (v := .tuple #[.agg #[.slice none 0 0, .int .i64 0, .int .i64 0], .int .i64 3]) (by simp [results, Tryz.results16, go_sem, r0, r1, r2, rl]) rfl ?_
        refine ⟨none, 0, by rw [HP.out]; rfl, by rw [HP.out]; exact World.ownsRow_nil _ _ _ _, ?_⟩
        repeat' first
          | exact hB4
          | exact Below.setCell (by repeat' first | exact hB4 | (refine Below.setCell ?_ hrb _) | (refine Below.alloc ?_ (by simp; omega) _)) hrb _
          | exact Below.alloc (by repeat' first | exact hB4 | (refine Below.setCell ?_ hrb _) | (refine Below.alloc ?_ (by simp; omega) _)) (by simp; omega) _
    · have g2' : F.2 = false := by cases h : F.2; rfl; exact absurd h g2
      rw [g2']
      have r0 := hRB2.c 0
      have r1 := hRB2.c 1
      have r2 := hRB2.c 2
      have q0 := hRB2.f 0
      have q1 := hRB2.f 1
      have q2 := hRB2.f 2
      have rl := hRB2.lt
      simp at r0 r1 r2
      have HP : Hid (pathF bk nm = (([], 0, 0), 2)) := HP2.out g2'
      clear hBB2 hRB2 hBB3 hRB3 hFB3
      go_wp2
      refine bodyPost_ret (v := .tuple #[.agg #[.slice none 0 0, .int .i64 0, .int .i64 0], .int .i64 2]) (by simp [results, Tryz.results16, go_sem, r0, r1, r2, rl]) rfl ?_
      refine ⟨none, 0, by rw [HP.out]; rfl, by rw [HP.out]; exact World.ownsRow_nil _ _ _ _, ?_⟩
      repeat' first
        | exact hB2
        | exact Below.setCell (by repeat' first | exact hB2 | (refine Below.setCell ?_ hrb _) | (refine Below.alloc ?_ (by simp; omega) _)) hrb _
        | exact Below.alloc (by repeat' first | exact hB2 | (refine Below.setCell ?_ hrb _) | (refine Below.alloc ?_ (by simp; omega) _)) (by simp; omega) _
  · rw [pb_no g1]
    have r0 := hRB1.c 0
    have r1 := hRB1.c 1
    have r2 := hRB1.c 2
    have q0 := hRB1.f 0
    have q1 := hRB1.f 1
    have q2 := hRB1.f 2
    have rl := hRB1.lt
    simp at r0 r1 r2
    have HP : Hid (pathF bk nm = (([], 0, 0), 1)) := path1 g1
    clear hBB1 hRB1
    go_wp2
    refine bodyPost_ret (v := .tuple #[.agg #[.slice none 0 0, .int .i64 0, .int .i64 0], .int .i64 1]) (by simp [results, Tryz.results16, go_sem, r0, r1, r2, rl]) rfl ?_
    refine ⟨none, 0, by rw [HP.out]; rfl, by rw [HP.out]; exact World.ownsRow_nil _ _ _ _, ?_⟩
    repeat' first
      | exact hB1
      | exact Below.setCell (by repeat' first | exact hB1 | (refine Below.setCell ?_ hrb _) | (refine Below.alloc ?_ (by simp; omega) _)) hrb _
      | exact Below.alloc (by repeat' first | exact hB1 | (refine Below.setCell ?_ hrb _) | (refine Below.alloc ?_ (by simp; omega) _)) (by simp; omega) _

end Pth
end Go.Proofs.YtgnjkpmbppmoeaaGreat
