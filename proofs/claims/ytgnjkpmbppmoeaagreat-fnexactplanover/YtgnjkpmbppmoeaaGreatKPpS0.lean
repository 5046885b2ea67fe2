/- DERIVED. spec.PlanPathOf: its walk (written by wip/tools/mk_pps0.py). -/
import Derived.Test.YtgnjkpmbppmoeaaGreatKPpI1
import Derived.Test.YtgnjkpmbppmoeaaGreatKSq4
namespace Go.Proofs.YtgnjkpmbppmoeaaGreat
open Go.RowKit
theorem Bel2.drew {B g : Nat} {w wr : World} (h : Bel2 B g w wr) : Bel2 B g w wr.drew := ⟨h.bel.drew, h.oth⟩
theorem Bel2.new {B g : Nat} {w wr : World} {p : Addr} (h : Bel2 B g w wr) (hp : w.heap.size ≤ p.block) (hB : B ≤ w.heap.size) (v : Value) : Bel2 B g w (wr.setCell p v) :=
  ⟨h.bel.setCell (Nat.le_trans hB hp) v, fun b h1 h2 => (Below.heap_setCell wr p v b (by omega)).trans (h.oth b h1 h2)⟩
namespace Pth
open Go.RowKit Leg Pcl Go.Proofs.YtgnjkpmbppmoeaaGreat.Std Lev
set_option linter.unusedSimpArgs false
set_option linter.unusedVariables false

def CK (gc o0 o1 g3 k fb : Nat) (cx cy la q s fr up : Int) (W : World) : Prop :=
  W.cell? ⟨gc, o0, none⟩ = some (.int .i64 cx) ∧ W.cell? ⟨gc, o1, none⟩ = some (.int .i64 cy) ∧ W.cell? ⟨g3, k, none⟩ = some (.int .i64 la) ∧ W.cell? ⟨fb, 2, none⟩ = some (.int .i64 q) ∧ W.cell? ⟨fb, 3, none⟩ = some (.int .i64 s) ∧ W.cell? ⟨fb, 4, none⟩ = some (.int .i64 fr) ∧ W.cell? ⟨fb, 5, none⟩ = some (.int .i64 up)
theorem CK.later {gc o0 o1 g3 k fb m : Nat} {cx cy la q s fr up : Int} {W W' : World} (h : CK gc o0 o1 g3 k fb cx cy la q s fr up W) (hb : Below m W W') (h1 : gc < m) (h2 : g3 < m) (h3 : fb < m) : CK gc o0 o1 g3 k fb cx cy la q s fr up W' := by
  obtain ⟨q0, q1, q2, q3, q4, q5, q6⟩ := h
  exact ⟨(hb.cell (p := ⟨gc, o0, none⟩) h1).trans q0, (hb.cell (p := ⟨gc, o1, none⟩) h1).trans q1, (hb.cell (p := ⟨g3, k, none⟩) h2).trans q2, (hb.cell (p := ⟨fb, 2, none⟩) h3).trans q3, (hb.cell (p := ⟨fb, 3, none⟩) h3).trans q4, (hb.cell (p := ⟨fb, 4, none⟩) h3).trans q5, (hb.cell (p := ⟨fb, 5, none⟩) h3).trans q6⟩
def CL (g3 j k : Nat) (lb la : Int) (W : World) : Prop := W.cell? ⟨g3, j, none⟩ = some (.int .i64 lb) ∧ W.cell? ⟨g3, k, none⟩ = some (.int .i64 la)
theorem CL.kept {g3 j k : Nat} {lb la : Int} {W W' : World} (h : CL g3 j k lb la W) (hb : W'.heap[g3]? = W.heap[g3]?) : CL g3 j k lb la W' := ⟨(World.cell?_of_block (w := W) hb).trans h.1, (World.cell?_of_block (w := W) hb).trans h.2⟩

theorem news6 (W : World) (t : TypeId) (a b c d e f : Int) : ∀ j u, [Value.int .i64 a, .int .i64 b, .int .i64 c, .int .i64 d, .int .i64 e, .int .i64 f][j]? = some u → (W.alloc (.cells #[.int .i64 a, .int .i64 b, .int .i64 c, .int .i64 d, .int .i64 e, .int .i64 f] t)).cell? ((⟨W.heap.size, 0, none⟩ : Addr).add j) = some u := by
  intro j u hj
  match j, hj with
  | 0, hj => simp at hj; subst hj; simp [Addr.add]
  | 1, hj => simp at hj; subst hj; simp [Addr.add]
  | 2, hj => simp at hj; subst hj; simp [Addr.add]
  | 3, hj => simp at hj; subst hj; simp [Addr.add]
  | 4, hj => simp at hj; subst hj; simp [Addr.add]
  | 5, hj => simp at hj; subst hj; simp [Addr.add]
theorem one6 (a b c d e f : Int) : ∀ u ∈ [Value.int .i64 a, .int .i64 b, .int .i64 c, .int .i64 d, .int .i64 e, .int .i64 f], u.oneCell' = true := by
  intro u hu
  simp at hu
  rcases hu with rfl | rfl | rfl | rfl | rfl | rfl <;> rfl
set_option maxRecDepth 100000 in
set_option maxHeartbeats 16000000 in
theorem sPathOf (bk : DPlanBook) (nm : ByteArray) (ao0 : Option Addr) (cap0 : Nat) (ao1 : Option Addr) (cap1 : Nat) (ao2 : Option Addr) (cap2 : Nat) (w : World) (p0 : SliceAt vPlanKind (old w) w ao0 cap0 bk.1.1) (p1 : SliceAt vPlanPoint (old w) w ao1 cap1 bk.1.2) (p2 : SliceAt vPlanEntry (old w) w ao2 cap2 bk.2) (hs : wPlanEntryS bk.2 ≤ 1048576) :
    Calls Tryz.prog 15 #[.agg #[.slice ao0 bk.1.1.length cap0, .slice ao1 bk.1.2.length cap1, .slice ao2 bk.2.length cap2], .string nm] w fun r w' => ∃ ao cap, r = .returned (.tuple #[.agg #[.slice ao (pathF bk nm).1.1.length cap, .int .i64 (pathF bk nm).1.2.1, .int .i64 (pathF bk nm).1.2.2], .int .i64 (pathF bk nm).2]) ∧
      w'.ownsRow w.heap.size 86 6 (.slice ao (pathF bk nm).1.1.length cap) (pathF bk nm).1.1.length (valsPlanStep (pathF bk nm).1.1) ∧ Below w.heap.size w w' := by
  obtain ⟨i0, hi, hz0, hz1, hz2⟩ := info_parts infoStep
  have hbase : BaseAt w bk.1 ao0 cap0 ao1 cap1 := ⟨p0, p1⟩
  obtain ⟨wA, hwA⟩ : ∃ wA : World, wA = (w.alloc (.cells #[.slice ao0 bk.1.1.length cap0, .slice ao1 bk.1.2.length cap1, .slice ao2 bk.2.length cap2] 43)).alloc (.cells #[.slice none 0 0, .int .i64 0, .int .i64 0] 52) := ⟨_, rfl⟩
  have hzA : wA.heap.size = w.heap.size + 2 := by rw [hwA]; simp
  have hbA : Below w.heap.size w wA := by rw [hwA]; exact ((Below.refl _ _).alloc (Nat.le_refl _) _).alloc (by simp) _
  have hBB : BxC w.heap.size #[.slice ao0 bk.1.1.length cap0, .slice ao1 bk.1.2.length cap1, .slice ao2 bk.2.length cap2] wA := by rw [hwA]; exact (BxC.new w _ _).below ((Below.refl (w.heap.size + 1) _).alloc (by simp) _) (by omega)
  have hRB : Dr wA (w.heap.size + 1) [.slice none 0 0, .int .i64 0, .int .i64 0] := by
    have hd := Dr.new (w.alloc (.cells #[.slice ao0 bk.1.1.length cap0, .slice ao1 bk.1.2.length cap1, .slice ao2 bk.2.length cap2] 43)) #[.slice none 0 0, .int .i64 0, .int .i64 0] 52
    rw [World.size_alloc] at hd
    rw [hwA]; exact hd
  have HT := sBook bk ao0 cap0 ao1 cap1 ao2 cap2 wA (hbase.later hbA) (p2.later hbA) hs
  rw [hwA] at HT
  go_enter Tryz.func15, Tryz.ntmps15
  go_wp2_with fail
  refine HT.mono ?_
  rw [← hwA]
  rintro e w1 ⟨rfl, hb1⟩
  obtain ⟨rb, hrb⟩ : ∃ rb, w.heap.size + 1 = rb := ⟨_, rfl⟩
  rw [hrb] at hRB
  try simp only [hrb]
  have hrb1 : w.heap.size < rb ∧ rb < w.heap.size + 2 := by omega
  have hrb : w.heap.size ≤ rb := by omega
  clear HT hwA
  rw [hzA] at hb1
  have hB1 : Below w.heap.size w w1 := hbA.trans (hb1.mono (by omega))
  have hz1' : w.heap.size + 2 ≤ w1.heap.size := by have := hb1.size; omega
  have hBB1 := hBB.below hb1 (by omega)
  have hRB1 := hRB.kept (hb1.block _ hrb1.2) hb1.size
  clear hBB hRB hb1 hbA hzA
  by_cases g1 : BookOk bk
  · rw [pb_yes g1]
    have c0 := hBB1 0
    have c1 := hBB1 1
    have c2 := hBB1 2
    simp at c0 c1 c2
    have HT := sStandsF bk nm ao0 cap0 ao1 cap1 ao2 cap2 w1 (p0.later hB1) (p1.later hB1) (p2.later hB1) hs
    have HFN := stdF_fine bk nm
    have HRL := stdF_len bk nm
    have HP2 : Hid ((stdF bk nm).2 = false → pathF bk nm = (([], 0, 0), 2)) := path2 g1
    have HP3 : Hid ((stdF bk nm).2 = true → ¬ CellsOk bk.1 (stdF bk nm).1.2.2.2.2.2 → pathF bk nm = (([], 0, 0), 3)) := path3 g1
    have HP4 : Hid _ := fun h2 h3 => path4 (bk := bk) (nm := nm) g1 h2 h3
    have HP0 : Hid _ := fun h2 h3 => path0 (bk := bk) (nm := nm) g1 h2 h3
    have HCL : Hid (CellsOk bk.1 (stdF bk nm).1.2.2.2.2.2 → 1 ≤ (cellsF bk nm).length ∧ (cellsF bk nm).length ≤ 40) := cellsF_len
    have HCE : Hid (cellsF bk nm = cellsOf bk.1 (stdF bk nm).1.2.2.2.2.2) := rfl
    obtain ⟨F, hF⟩ : ∃ F, F = stdF bk nm := ⟨_, rfl⟩
    simp only [← hF] at HT HFN HRL HP2 HP3 HP4 HP0 HCL HCE
    clear hF
    obtain ⟨⟨f0, ⟨f1, q, s⟩, fr, up, lev, rt⟩, ok⟩ := F
    simp only at HT HFN HRL HP2 HP3 HP4 HP0 HCL HCE
    go_wp2_with fail
    refine HT.mono ?_
    rintro e w2 ⟨fo, fc, rfl, hT2, hb2⟩
    have hTx := TxO.of_txt hT2
    have hB2 := hB1.trans (hb2.mono (by omega))
    have hz2' : w.heap.size + 2 ≤ w2.heap.size := Nat.le_trans hz1' hb2.size
    have hBB2 := hBB1.below hb2 (by omega)
    have hRB2 := hRB1.kept (hb2.block _ (by omega)) hb2.size
    clear HT hT2 hb2 hB1 hz1' hBB1 hRB1 c0 c1 c2
    obtain ⟨w3, hw3⟩ : ∃ w3 : World, w3 = w2.alloc (.cells #[.string f0, .string f1, .int .i64 q, .int .i64 s, .int .i64 fr, .int .i64 up, .int .i64 lev, .slice fo rt.length fc] 34) := ⟨_, rfl⟩
    have hb3 : Below w2.heap.size w2 w3 := by rw [hw3]; exact (Below.refl _ _).alloc (Nat.le_refl _) _
    have hFB3 : BxC w2.heap.size #[.string f0, .string f1, .int .i64 q, .int .i64 s, .int .i64 fr, .int .i64 up, .int .i64 lev, .slice fo rt.length fc] w3 := by rw [hw3]; exact BxC.new _ _ _
    have hz3 : w3.heap.size = w2.heap.size + 1 := by rw [hw3]; simp
    have hB3 := hB2.trans (hb3.mono (by omega))
    have hBB3 := hBB2.below hb3 (by omega)
    have hRB3 := hRB2.kept (hb3.block _ (by omega)) hb3.size
    have hTx3 := hTx.later hb3
    cases ok
    · skip
      have r0 := hRB2.c 0
      have r1 := hRB2.c 1
      have r2 := hRB2.c 2
      have q0' := hRB2.f 0
      have q1' := hRB2.f 1
      have q2' := hRB2.f 2
      have rl := hRB2.lt
      simp at r0 r1 r2
      have HP : Hid (pathF bk nm = (([], 0, 0), 2)) := HP2.out rfl
      clear hBB2 hRB2 hBB3 hRB3 hFB3
      go_wp2
      refine bodyPost_ret (v := .tuple #[.agg #[.slice none 0 0, .int .i64 0, .int .i64 0], .int .i64 2]) (by simp [results, Tryz.results15, go_sem, r0, r1, r2, rl]) rfl ?_
      refine ⟨none, 0, by rw [HP.out]; rfl, by rw [HP.out]; exact World.ownsRow_nil _ _ _ _, ?_⟩
      repeat' first
        | exact hB2
        | exact Below.setCell (by repeat' first | exact hB2 | (refine Below.setCell ?_ hrb _) | (refine Below.alloc ?_ (by simp; omega) _)) hrb _
        | exact Below.alloc (by repeat' first | exact hB2 | (refine Below.setCell ?_ hrb _) | (refine Below.alloc ?_ (by simp; omega) _)) (by simp; omega) _
    · have HF2 := HFN rfl
      have y0 := hBB2 0
      have y1 := hBB2 1
      simp at y0 y1
      have yl : w.heap.size < w2.heap.size := by omega
      have HT := sCells bk.1 ao0 cap0 ao1 cap1 fo fc rt w3 (hbase.later hB3) hTx3 (by omega)
      unfold GivesC at HT
      rw [hw3] at HT
      clear HP2
      go_wp2_with fail
      refine HT.mono ?_
      rw [← hw3]
      rintro e w4 ⟨co, cc, rfl, hO4, hb4⟩
      clear HT hw3 y0 y1 yl hTx hTx3
      have hB4 := hB3.trans (hb4.mono (by omega))
      have hz4 : w2.heap.size + 1 ≤ w4.heap.size := by have := hb4.size; omega
      have hFB4 := hFB3.below hb4 (by omega)
      have hRB4 := hRB3.kept (hb4.block _ (by omega)) hb4.size
      have hCA := atPlanCell_owns hO4
      have hcc : (cellsOf bk.1 rt).length ≤ cc ∧ cc ≤ maxLen := by
        rcases hO4.2 with ⟨h1, _⟩ | ⟨_, c3, _, h1, _, _, h2, h3, _⟩
        · injection h1 with _ e2 e3
          unfold maxLen; omega
        · injection h1 with _ _ e3
          subst e3
          exact ⟨h2, h3⟩
      clear hO4 hb4 hB2 hB3 hBB2 hBB3 hRB2 hRB3 hFB3 hb3
      by_cases g3 : CellsOk bk.1 rt
      · rw [pb_yes g3]
        have hcl := HCL.out g3
        rw [HCE.out] at hcl
        have HP4' := HP4.out trivial g3
        have HP0' := HP0.out trivial g3
        rw [HCE.out] at HP4' HP0'
        have HP4 : Hid _ := HP4'
        have HP0 : Hid _ := HP0'
        obtain ⟨t0, t1, t2, q0, q1, q2, l0, l1, hr⟩ := HF2
        simp only at t0 t1 t2 q0 q1 q2 l0 l1 hr
        clear HP3 HP4' HP0' HCL HCE g1 g3 HFN HRL
        generalize cellsOf bk.1 rt = cs at *
        obtain ⟨hn1, hn⟩ := hcl
        have hcm : cc ≤ 9223372036854775807 := hcc.2
        have hcl := hcc.1
        have hmQ := mul_le (cs.length : Int) cs.length q (by omega) (by omega) (by omega) (by omega)
        have hmS := mul_le (cs.length : Int) cs.length s (by omega) (by omega) (by omega) (by omega)
        have z2 := hFB4 2
        have z3 := hFB4 3
        have z4 := hFB4 4
        have z5 := hFB4 5
        have z6 := hFB4 6
        simp at z2 z3 z4 z5 z6
        by_cases g4 : up + (cs.length : Int) * s > 10000
        · have HP4b : Hid (pathF bk nm = (([], 0, 0), 4)) := HP4.out g4
          have g4' : (10000 : Int) < up + (cs.length : Int) * s := g4
          clear HP4 HP0 g4
          have r0 := hRB4.c 0
          have r1 := hRB4.c 1
          have r2 := hRB4.c 2
          have q0' := hRB4.f 0
          have q1' := hRB4.f 1
          have q2' := hRB4.f 2
          have rl := hRB4.lt
          simp at r0 r1 r2
          have HP : Hid (pathF bk nm = (([], 0, 0), 4)) := HP4b.out
          clear hCA
          go_wp2
          refine bodyPost_ret (v := .tuple #[.agg #[.slice none 0 0, .int .i64 0, .int .i64 0], .int .i64 4]) (by simp [results, Tryz.results15, go_sem, r0, r1, r2, rl]) rfl ?_
          refine ⟨none, 0, by rw [HP.out]; rfl, by rw [HP.out]; exact World.ownsRow_nil _ _ _ _, ?_⟩
          repeat' first
            | exact hB4
            | exact Below.setCell (by repeat' first | exact hB4 | (refine Below.setCell ?_ hrb _) | (refine Below.alloc ?_ (by simp; omega) _)) hrb _
            | exact Below.alloc (by repeat' first | exact hB4 | (refine Below.setCell ?_ hrb _) | (refine Below.alloc ?_ (by simp; omega) _)) (by simp; omega) _
        · have HP0b : Hid _ := HP0.out (by omega)
          have g4' : up + (cs.length : Int) * s ≤ (10000 : Int) := by omega
          clear HP4 HP0 g4
          have HLS : Hid ((stepsL fr up q s lev cs cs.length).length = cs.length) := stepsL_len fr up q s lev cs cs.length
          have HLV := fun W => sLevels (cs.length : Int) lev W
          have hlo : LvOk (cs.length : Int) lev := ⟨⟨by omega, by omega⟩, by omega, by omega⟩
          have hle : levelsOf (cs.length : Int) lev = levelsL (cs.length : Int) lev := if_pos hlo
          unfold GivesLv at HLV
          simp only [hle] at HLV
          have hll : (levelsL (cs.length : Int) lev).length = cs.length := by simp [levelsL]
          have hlv : ∀ k (h : k < cs.length), (levelsL (cs.length : Int) lev)[k]? = some (lvAt (cs.length : Int) lev k) := fun k h => by
            unfold levelsL
            rw [List.getElem?_map, List.getElem?_range (by omega)]
            rfl
          obtain ⟨gc, rfl, hgc, hcell⟩ : ∃ gc, co = some ⟨gc, 0, none⟩ ∧ gc < w4.heap.size ∧ ∀ k (h : k < cs.length), w4.cell? ⟨gc, k * 2, none⟩ = some (.int .i64 (cs[k]'h).1) ∧ w4.cell? ⟨gc, k * 2 + 1, none⟩ = some (.int .i64 (cs[k]'h).2) := by
            rcases hCA with h0 | ⟨g, h1, h2, h3⟩
            · rw [h0] at hn1; simp at hn1
            · exact ⟨g, h1, h2, h3⟩
          clear hCA hlo hle
          go_wp2_with fail
          refine (HLV w4).mono ?_
          rintro e w5 ⟨lo, lc, rfl, hO5, hb5⟩
          clear HLV z2 z3 z4 z5 z6
          rw [hll] at hO5 ⊢
          obtain ⟨g3, rfl, hg3, hlc⟩ : ∃ g3, lo = some ⟨g3, 0, none⟩ ∧ g3 < w5.heap.size ∧ ∀ k (h : k < cs.length), w5.cell? ⟨g3, k, none⟩ = some (.int .i64 (lvAt (cs.length : Int) lev k)) := by
            rcases atInt_owns hll.symm hO5 with h0 | ⟨g, h1, h2, h3⟩
            · rw [h0] at hll; simp at hll; omega
            · refine ⟨g, h1, h2, fun k h => ?_⟩
              have h4 := h3 k (by rw [hll]; exact h)
              have h5 := hlv k h
              rw [List.getElem?_eq_getElem (by rw [hll]; exact h)] at h5
              rw [h4]
              simp at h5
              rw [h5]
          have hlc2 : cs.length ≤ lc ∧ lc ≤ 9223372036854775807 := by
            rcases hO5.2 with ⟨h1, _⟩ | ⟨_, c3, _, h1, _, _, h2, h3, _⟩
            · simp at h1
            · have := h3; unfold maxLen at this; cases h1; omega
          clear hO5 hlv hll
          have hB5 := hB4.trans (hb5.mono (by omega))
          have hz5 := hb5.size
          have hFB5 := hFB4.below hb5 (by omega)
          have hRB5 := hRB4.kept (hb5.block _ (by omega)) hb5.size
          have hcell5 : ∀ k (h : k < cs.length), w5.cell? ⟨gc, k * 2, none⟩ = some (.int .i64 (cs[k]'h).1) ∧ w5.cell? ⟨gc, k * 2 + 1, none⟩ = some (.int .i64 (cs[k]'h).2) := fun k h =>
            ⟨(hb5.cell (p := ⟨gc, k * 2, none⟩) hgc).trans (hcell k h).1, (hb5.cell (p := ⟨gc, k * 2 + 1, none⟩) hgc).trans (hcell k h).2⟩
          have z2 := hFB5 2
          have z3 := hFB5 3
          have z4 := hFB5 4
          have z5 := hFB5 5
          simp at z2 z3 z4 z5
          clear hb5 hcell hFB4 hRB4 hB4
          obtain ⟨w6, hw6⟩ : ∃ w6 : World, w6 = w5.alloc (.cells #[.slice none 0 0, .int .i64 (fr + (cs.length : Int) * q), .int .i64 (up + (cs.length : Int) * s)] 52) := ⟨_, rfl⟩
          have hb6 : Below w5.heap.size w5 w6 := by rw [hw6]; exact (Below.refl _ _).alloc (Nat.le_refl _) _
          have hPB : Dr w6 w5.heap.size [.slice none 0 0, .int .i64 (fr + (cs.length : Int) * q), .int .i64 (up + (cs.length : Int) * s)] := by
            have hd := Dr.new w5 #[.slice none 0 0, .int .i64 (fr + (cs.length : Int) * q), .int .i64 (up + (cs.length : Int) * s)] 52
            rw [hw6]; exact hd
          have hz6 : w6.heap.size = w5.heap.size + 1 := by rw [hw6]; simp
          have hB6 := hB5.trans (hb6.mono (by omega))
          have HFB6 := hFB5.below hb6 (by omega)
          have hRB6 := hRB5.kept (hb6.block _ (by omega)) hb6.size
          have hcell6 : ∀ k (h : k < cs.length), w6.cell? ⟨gc, k * 2, none⟩ = some (.int .i64 (cs[k]'h).1) ∧ w6.cell? ⟨gc, k * 2 + 1, none⟩ = some (.int .i64 (cs[k]'h).2) := fun k h =>
            ⟨(hb6.cell (p := ⟨gc, k * 2, none⟩) (by show gc < _; omega)).trans (hcell5 k h).1, (hb6.cell (p := ⟨gc, k * 2 + 1, none⟩) (by show gc < _; omega)).trans (hcell5 k h).2⟩
          have hlc6 : ∀ k (h : k < cs.length), w6.cell? ⟨g3, k, none⟩ = some (.int .i64 (lvAt (cs.length : Int) lev k)) := fun k h => (hb6.cell (p := ⟨g3, k, none⟩) hg3).trans (hlc k h)
          have hB6s := hB6.size
          go_wp2
          rw [← hw6]
          obtain ⟨pb, hpb⟩ : ∃ pb, w5.heap.size = pb := ⟨_, rfl⟩
          have hpb2 : gc < pb ∧ g3 < pb ∧ w2.heap.size < pb ∧ pb < w6.heap.size ∧ w.heap.size < pb ∧ rb < pb ∧ w.heap.size < rb := by omega
          simp only [hpb] at hPB ⊢
          clear hb6 hw6 hB5 hFB5 hRB5 hcell5 hlc hpb z2 z3 z4 z5 hz6
          obtain ⟨i1, i2, i3, i4, i5, i6, i7⟩ := hpb2
          generalize fr + (cs.length : Int) * q = LO at *
          generalize up + (cs.length : Int) * s = UP at *
          go_loopw [13] (fun i wr => ∃ (k : Nat) (ao : Option Addr) (cap : Nat), k ≤ cs.length ∧ i = .int .i64 k ∧ wr.ownsRow w6.heap.size 86 6 (.slice ao k cap) k (valsPlanStep (stepsL fr up q s lev cs k)) ∧ Bel2 w.heap.size pb w6 wr ∧ Dr wr pb [.slice ao k cap, .int .i64 LO, .int .i64 UP]) (fun i _ => cs.length - (intOf i).toNat)
          case atStart => exact ⟨0, none, 0, Nat.zero_le _, rfl, World.ownsRow_nil _ _ _ _, Bel2.refl _ _ _, hPB⟩
          case round =>
            clear hPB
            obtain ⟨k, ao, cap, hk, rfl, hO, hbel, hPr⟩ := hrel
            by_cases hlt : k < cs.length
            · have hkI : (k : Int) < (cs.length : Int) := by omega
              have hnk : (cs.length ≤ k) = False := by simp; omega
              have hsz := hbel.size
              have x0 := (hbel.cell (p := ⟨gc, k * 2, none⟩) (by show gc < _; omega) (by show gc ≠ _; omega)).trans (hcell6 k hlt).1
              have x1 := (hbel.cell (p := ⟨gc, k * 2 + 1, none⟩) (by show gc < _; omega) (by show gc ≠ _; omega)).trans (hcell6 k hlt).2
              have x2 := (hbel.cell (p := ⟨g3, k, none⟩) (by show g3 < _; omega) (by show g3 ≠ _; omega)).trans (hlc6 k hlt)
              have x3 := (hbel.cell (p := ⟨w2.heap.size, 2, none⟩) (by show w2.heap.size < _; omega) (by show w2.heap.size ≠ _; omega)).trans (HFB6 2)
              have x4 := (hbel.cell (p := ⟨w2.heap.size, 3, none⟩) (by show w2.heap.size < _; omega) (by show w2.heap.size ≠ _; omega)).trans (HFB6 3)
              have x5 := (hbel.cell (p := ⟨w2.heap.size, 4, none⟩) (by show w2.heap.size < _; omega) (by show w2.heap.size ≠ _; omega)).trans (HFB6 4)
              have x6 := (hbel.cell (p := ⟨w2.heap.size, 5, none⟩) (by show w2.heap.size < _; omega) (by show w2.heap.size ≠ _; omega)).trans (HFB6 5)
              simp at x3 x4 x5 x6
              have HX7 : Hid (∀ j, k = j + 1 → wr.cell? ⟨g3, j, none⟩ = some (.int .i64 (lvB cs.length lev k))) := fun j hj => by
                subst hj
                exact (hbel.cell (p := ⟨g3, j, none⟩) (by show g3 < _; omega) (by show g3 ≠ _; omega)).trans (hlc6 j (by omega))
              have HST : Hid (stepsL fr up q s lev cs (k + 1) = stepsL fr up q s lev cs k ++ [((cs[k]'hlt).1, (cs[k]'hlt).2, mn (lvB cs.length lev k) (lvAt (cs.length : Int) lev k), mx (lvB cs.length lev k) (lvAt (cs.length : Int) lev k), fr + (k : Int) * q, up + (k : Int) * s)]) := by
                have h := stepsL_succ fr up q s lev cs k
                unfold stepAt at h
                rw [List.getD_eq_getElem?_getD, List.getElem?_eq_getElem hlt] at h
                exact h
              have HL0 : Hid (k = 0 → lvB cs.length lev k = lvAt (cs.length : Int) lev k) := fun h => by subst h; exact lvB_zero _ _
              have hmq := mul_le (k : Int) cs.length q (by omega) (by omega) (by omega) (by omega)
              have hms := mul_le (k : Int) cs.length s (by omega) (by omega) (by omega) (by omega)
              have hwq : IntKind.i64.wrap ((k : Int) * q) = (k : Int) * q := by rw [IntKind.wrap_i64] <;> omega
              have hws : IntKind.i64.wrap ((k : Int) * s) = (k : Int) * s := by rw [IntKind.wrap_i64] <;> omega
              have hwfq : IntKind.i64.wrap (fr + (k : Int) * q) = fr + (k : Int) * q := by rw [IntKind.wrap_i64] <;> omega
              have hwus : IntKind.i64.wrap (up + (k : Int) * s) = up + (k : Int) * s := by rw [IntKind.wrap_i64] <;> omega
              generalize hcx : (cs[k]'hlt) = c at *
              obtain ⟨cx, cy⟩ := c
              simp only at x0 x1 HST
              generalize lvB cs.length lev k = lb at *
              generalize lvAt (cs.length : Int) lev k = la at *
              have hOwn : ∀ j, (Value.slice ao k cap).ownBlock = some j → w6.heap.size ≤ j ∧ j < wr.heap.size := fun j hj => hO.lt j hj
              have hgr1 : gc < wr.heap.size := by omega
              have hgr2 : g3 < wr.heap.size := by omega
              have hgr3 : w2.heap.size < wr.heap.size := by omega
              clear hcell6 hlc6 HFB6
              go_wp2_with fail
              have HC0 : CK gc (k * 2) (k * 2 + 1) g3 k w2.heap.size cx cy la q s fr up wr.drew := ⟨x0, x1, x2, x3, x4, x5, x6⟩
              have hOd : wr.drew.ownsRow w6.heap.size 86 6 (.slice ao k cap) k (valsPlanStep (stepsL fr up q s lev cs k)) := hO.drew
              have hbeld : Bel2 w.heap.size pb w6 wr.drew := hbel.drew
              have hPd : Dr wr.drew pb [.slice ao k cap, .int .i64 LO, .int .i64 UP] := hPr.kept rfl (Nat.le_refl _)
              have HX7d : Hid (∀ j, k = j + 1 → wr.drew.cell? ⟨g3, j, none⟩ = some (.int .i64 lb)) := HX7
              have hOwn : ∀ j, (Value.slice ao k cap).ownBlock = some j → w6.heap.size ≤ j ∧ j < wr.drew.heap.size := hOwn
              have hszd : w6.heap.size ≤ wr.drew.heap.size := hsz
              refine wp_region_RC (CK gc (k * 2) (k * 2 + 1) g3 k w2.heap.size cx cy la q s fr up) mixedP ?_
              clear x0 x1 x2 x3 x4 x5 x6 hO hbel hPr HX7 hsz hgr1 hgr2 hgr3
              generalize wr.drew = wd at *
              refine RC.take (i := 0) (v := .slice (some ⟨gc, 0, none⟩) cs.length cc) rfl (by kernel_rfl) (by kernel_rfl) (by kernel_rfl) (fun _ _ _ h => h) HC0 (by kernel_rfl) ?y1 ?r1
              case y1 => (intro W hW; clear hW; clear HC0 hOd hbeld hPd; go_simp)
              refine RC.take (i := 1) (v := .int .i64 (k : Int)) rfl (by kernel_rfl) (by kernel_rfl) (by kernel_rfl) (fun _ _ _ h => h) HC0 (by kernel_rfl) ?y2 ?r2
              case y2 => (intro W hW; clear hW; clear HC0 hOd hbeld hPd; go_simp)
              refine RC.take (i := 2) (v := .pointer (some ⟨gc, k * 2, none⟩)) rfl (by kernel_rfl) (by kernel_rfl) (by kernel_rfl) (fun _ _ _ h => h) HC0 (by kernel_rfl) ?y3 ?r3
              case y3 => (intro W hW; clear hW; clear HC0 hOd hbeld hPd; go_simp)
              refine RC.take (i := 3) (v := .pointer (some ⟨gc, k * 2, none⟩)) rfl (by kernel_rfl) (by kernel_rfl) (by kernel_rfl) (fun _ _ _ h => h) HC0 (by kernel_rfl) ?y4 ?r4
              case y4 => (intro W hW; clear hW; clear HC0 hOd hbeld hPd; go_simp)
              refine RC.take (i := 4) (v := .int .i64 (cx)) rfl (by kernel_rfl) (by kernel_rfl) (by kernel_rfl) (fun _ _ _ h => h) HC0 (by kernel_rfl) ?y5 ?r5
              case y5 => (intro W hW; obtain ⟨u0, u1, u2, u3, u4, u5, u6⟩ := hW; clear HC0 hOd hbeld hPd; go_simp)
              refine RC.take (i := 5) (v := .slice (some ⟨gc, 0, none⟩) cs.length cc) rfl (by kernel_rfl) (by kernel_rfl) (by kernel_rfl) (fun _ _ _ h => h) HC0 (by kernel_rfl) ?y6 ?r6
              case y6 => (intro W hW; clear hW; clear HC0 hOd hbeld hPd; go_simp)
              refine RC.take (i := 6) (v := .int .i64 (k : Int)) rfl (by kernel_rfl) (by kernel_rfl) (by kernel_rfl) (fun _ _ _ h => h) HC0 (by kernel_rfl) ?y7 ?r7
              case y7 => (intro W hW; clear hW; clear HC0 hOd hbeld hPd; go_simp)
              refine RC.take (i := 7) (v := .pointer (some ⟨gc, k * 2, none⟩)) rfl (by kernel_rfl) (by kernel_rfl) (by kernel_rfl) (fun _ _ _ h => h) HC0 (by kernel_rfl) ?y8 ?r8
              case y8 => (intro W hW; clear hW; clear HC0 hOd hbeld hPd; go_simp)
              refine RC.take (i := 8) (v := .pointer (some ⟨gc, k * 2 + 1, none⟩)) rfl (by kernel_rfl) (by kernel_rfl) (by kernel_rfl) (fun _ _ _ h => h) HC0 (by kernel_rfl) ?y9 ?r9
              case y9 => (intro W hW; clear hW; clear HC0 hOd hbeld hPd; go_simp)
              refine RC.take (i := 9) (v := .int .i64 (cy)) rfl (by kernel_rfl) (by kernel_rfl) (by kernel_rfl) (fun _ _ _ h => h) HC0 (by kernel_rfl) ?y10 ?r10
              case y10 => (intro W hW; obtain ⟨u0, u1, u2, u3, u4, u5, u6⟩ := hW; clear HC0 hOd hbeld hPd; go_simp)
              refine RC.take (i := 10) (v := .slice (some ⟨g3, 0, none⟩) cs.length lc) rfl (by kernel_rfl) (by kernel_rfl) (by kernel_rfl) (fun _ _ _ h => h) HC0 (by kernel_rfl) ?y11 ?r11
              case y11 => (intro W hW; clear hW; clear HC0 hOd hbeld hPd; go_simp)
              refine RC.take (i := 11) (v := .int .i64 (k : Int)) rfl (by kernel_rfl) (by kernel_rfl) (by kernel_rfl) (fun _ _ _ h => h) HC0 (by kernel_rfl) ?y12 ?r12
              case y12 => (intro W hW; clear hW; clear HC0 hOd hbeld hPd; go_simp)
              refine RC.take (i := 12) (v := .pointer (some ⟨g3, k, none⟩)) rfl (by kernel_rfl) (by kernel_rfl) (by kernel_rfl) (fun _ _ _ h => h) HC0 (by kernel_rfl) ?y13 ?r13
              case y13 => (intro W hW; clear hW; clear HC0 hOd hbeld hPd; go_simp)
              refine RC.take (i := 13) (v := .int .i64 (la)) rfl (by kernel_rfl) (by kernel_rfl) (by kernel_rfl) (fun _ _ _ h => h) HC0 (by kernel_rfl) ?y14 ?r14
              case y14 => (intro W hW; obtain ⟨u0, u1, u2, u3, u4, u5, u6⟩ := hW; clear HC0 hOd hbeld hPd; go_simp)
              refine RC.take (i := 14) (v := .slice (some ⟨g3, 0, none⟩) cs.length lc) rfl (by kernel_rfl) (by kernel_rfl) (by kernel_rfl) (fun _ _ _ h => h) HC0 (by kernel_rfl) ?y15 ?r15
              case y15 => (intro W hW; clear hW; clear HC0 hOd hbeld hPd; go_simp)
              refine RC.take (i := 15) (v := .int .i64 (k : Int)) rfl (by kernel_rfl) (by kernel_rfl) (by kernel_rfl) (fun _ _ _ h => h) HC0 (by kernel_rfl) ?y16 ?r16
              case y16 => (intro W hW; clear hW; clear HC0 hOd hbeld hPd; go_simp)
              refine RC.take (i := 16) (v := .pointer (some ⟨g3, k, none⟩)) rfl (by kernel_rfl) (by kernel_rfl) (by kernel_rfl) (fun _ _ _ h => h) HC0 (by kernel_rfl) ?y17 ?r17
              case y17 => (intro W hW; clear hW; clear HC0 hOd hbeld hPd; go_simp)
              refine RC.take (i := 17) (v := .int .i64 (la)) rfl (by kernel_rfl) (by kernel_rfl) (by kernel_rfl) (fun _ _ _ h => h) HC0 (by kernel_rfl) ?y18 ?r18
              case y18 => (intro W hW; obtain ⟨u0, u1, u2, u3, u4, u5, u6⟩ := hW; clear HC0 hOd hbeld hPd; go_simp)
              refine RC.take (i := 18) (v := .pointer (some ⟨w2.heap.size, 4, none⟩)) rfl (by kernel_rfl) (by kernel_rfl) (by kernel_rfl) (fun _ _ _ h => h) HC0 (by kernel_rfl) ?y19 ?r19
              case y19 => (intro W hW; clear hW; clear HC0 hOd hbeld hPd; go_simp)
              refine RC.take (i := 19) (v := .int .i64 (fr)) rfl (by kernel_rfl) (by kernel_rfl) (by kernel_rfl) (fun _ _ _ h => h) HC0 (by kernel_rfl) ?y20 ?r20
              case y20 => (intro W hW; obtain ⟨u0, u1, u2, u3, u4, u5, u6⟩ := hW; clear HC0 hOd hbeld hPd; go_simp)
              refine RC.take (i := 20) (v := .int .i64 (k : Int)) rfl (by kernel_rfl) (by kernel_rfl) (by kernel_rfl) (fun _ _ _ h => h) HC0 (by kernel_rfl) ?y21 ?r21
              case y21 => (intro W hW; clear hW; clear HC0 hOd hbeld hPd; go_simp)
              refine RC.take (i := 21) (v := .pointer (some ⟨w2.heap.size, 1, none⟩)) rfl (by kernel_rfl) (by kernel_rfl) (by kernel_rfl) (fun _ _ _ h => h) HC0 (by kernel_rfl) ?y22 ?r22
              case y22 => (intro W hW; clear hW; clear HC0 hOd hbeld hPd; go_simp)
              refine RC.take (i := 22) (v := .pointer (some ⟨w2.heap.size, 2, none⟩)) rfl (by kernel_rfl) (by kernel_rfl) (by kernel_rfl) (fun _ _ _ h => h) HC0 (by kernel_rfl) ?y23 ?r23
              case y23 => (intro W hW; clear hW; clear HC0 hOd hbeld hPd; go_simp)
              refine RC.take (i := 23) (v := .int .i64 (q)) rfl (by kernel_rfl) (by kernel_rfl) (by kernel_rfl) (fun _ _ _ h => h) HC0 (by kernel_rfl) ?y24 ?r24
              case y24 => (intro W hW; obtain ⟨u0, u1, u2, u3, u4, u5, u6⟩ := hW; clear HC0 hOd hbeld hPd; go_simp)
              refine RC.take (i := 24) (v := .int .i64 ((k : Int) * q)) rfl (by kernel_rfl) (by kernel_rfl) (by kernel_rfl) (fun _ _ _ h => h) HC0 (by kernel_rfl) ?y25 ?r25
              case y25 => (intro W hW; clear hW; clear HC0 hOd hbeld hPd; go_simp)
              refine RC.take (i := 25) (v := .int .i64 (fr + (k : Int) * q)) rfl (by kernel_rfl) (by kernel_rfl) (by kernel_rfl) (fun _ _ _ h => h) HC0 (by kernel_rfl) ?y26 ?r26
              case y26 => (intro W hW; clear hW; clear HC0 hOd hbeld hPd; go_simp)
              refine RC.take (i := 26) (v := .pointer (some ⟨w2.heap.size, 5, none⟩)) rfl (by kernel_rfl) (by kernel_rfl) (by kernel_rfl) (fun _ _ _ h => h) HC0 (by kernel_rfl) ?y27 ?r27
              case y27 => (intro W hW; clear hW; clear HC0 hOd hbeld hPd; go_simp)
              refine RC.take (i := 27) (v := .int .i64 (up)) rfl (by kernel_rfl) (by kernel_rfl) (by kernel_rfl) (fun _ _ _ h => h) HC0 (by kernel_rfl) ?y28 ?r28
              case y28 => (intro W hW; obtain ⟨u0, u1, u2, u3, u4, u5, u6⟩ := hW; clear HC0 hOd hbeld hPd; go_simp)
              refine RC.take (i := 28) (v := .int .i64 (k : Int)) rfl (by kernel_rfl) (by kernel_rfl) (by kernel_rfl) (fun _ _ _ h => h) HC0 (by kernel_rfl) ?y29 ?r29
              case y29 => (intro W hW; clear hW; clear HC0 hOd hbeld hPd; go_simp)
              refine RC.take (i := 29) (v := .pointer (some ⟨w2.heap.size, 1, none⟩)) rfl (by kernel_rfl) (by kernel_rfl) (by kernel_rfl) (fun _ _ _ h => h) HC0 (by kernel_rfl) ?y30 ?r30
              case y30 => (intro W hW; clear hW; clear HC0 hOd hbeld hPd; go_simp)
              refine RC.take (i := 30) (v := .pointer (some ⟨w2.heap.size, 3, none⟩)) rfl (by kernel_rfl) (by kernel_rfl) (by kernel_rfl) (fun _ _ _ h => h) HC0 (by kernel_rfl) ?y31 ?r31
              case y31 => (intro W hW; clear hW; clear HC0 hOd hbeld hPd; go_simp)
              refine RC.take (i := 31) (v := .int .i64 (s)) rfl (by kernel_rfl) (by kernel_rfl) (by kernel_rfl) (fun _ _ _ h => h) HC0 (by kernel_rfl) ?y32 ?r32
              case y32 => (intro W hW; obtain ⟨u0, u1, u2, u3, u4, u5, u6⟩ := hW; clear HC0 hOd hbeld hPd; go_simp)
              refine RC.take (i := 32) (v := .int .i64 ((k : Int) * s)) rfl (by kernel_rfl) (by kernel_rfl) (by kernel_rfl) (fun _ _ _ h => h) HC0 (by kernel_rfl) ?y33 ?r33
              case y33 => (intro W hW; clear hW; clear HC0 hOd hbeld hPd; go_simp)
              refine RC.take (i := 33) (v := .int .i64 (up + (k : Int) * s)) rfl (by kernel_rfl) (by kernel_rfl) (by kernel_rfl) (fun _ _ _ h => h) HC0 (by kernel_rfl) ?y34 ?r34
              case y34 => (intro W hW; clear hW; clear HC0 hOd hbeld hPd; go_simp)
              refine RC.take (i := 34) (v := .agg #[.int .i64 cx, .int .i64 cy, .int .i64 la, .int .i64 la, .int .i64 (fr + (k : Int) * q), .int .i64 (up + (k : Int) * s)]) rfl (by kernel_rfl) (by kernel_rfl) (by kernel_rfl) (fun _ _ _ h => h) HC0 (by kernel_rfl) ?y35 ?r35
              case y35 => (intro W hW; clear hW; clear HC0 hOd hbeld hPd; go_simp)
              have hgs1 : gc < wd.heap.size := by omega
              have hgs2 : g3 < wd.heap.size := by omega
              have hgs3 : w2.heap.size < wd.heap.size := by omega
              refine RC.want (i := 35) (by kernel_rfl) rfl (by kernel_rfl) (fun K hK => ?_)
              go_simp
              refine hK _ _ (HC0.later ((Below.refl wd.heap.size wd).alloc (Nat.le_refl _) _) hgs1 hgs2 hgs3) ?_
              clear hK K
              refine RC.want (i := 36) (by kernel_rfl) rfl (by kernel_rfl) (fun K hK => ?_)
              go_simp
              refine hK _ _ (HC0.later ((Below.refl wd.heap.size wd).alloc (Nat.le_refl _) _) hgs1 hgs2 hgs3) ?_
              clear hK K
              refine RC.done (by kernel_rfl) ?_
              obtain ⟨wa, hwa⟩ : ∃ wa : World, wa = wd.alloc (.cells #[.int .i64 cx, .int .i64 cy, .int .i64 la, .int .i64 la, .int .i64 (fr + (k : Int) * q), .int .i64 (up + (k : Int) * s)] 86) := ⟨_, rfl⟩
              have hba : Below wd.heap.size wd wa := by rw [hwa]; exact (Below.refl _ _).alloc (Nat.le_refl _) _
              have hSa : Dr wa wd.heap.size [.int .i64 cx, .int .i64 cy, .int .i64 la, .int .i64 la, .int .i64 (fr + (k : Int) * q), .int .i64 (up + (k : Int) * s)] := by
                have hd := Dr.new wd #[.int .i64 cx, .int .i64 cy, .int .i64 la, .int .i64 la, .int .i64 (fr + (k : Int) * q), .int .i64 (up + (k : Int) * s)] 86
                rw [hwa]; exact hd
              have hOa : wa.ownsRow w6.heap.size 86 6 (.slice ao k cap) k (valsPlanStep (stepsL fr up q s lev cs k)) := owns_below hOd hba
              have hbela : Bel2 w.heap.size pb w6 wa := hbeld.then hba hB6s
              have hPa : Dr wa pb [.slice ao k cap, .int .i64 LO, .int .i64 UP] := hPd.kept (hba.block pb hPd.lt) hba.size
              have e2 := (hba.cell (p := ⟨g3, k, none⟩) hgs2).trans HC0.2.2.1
              have HX7a : Hid (∀ j, k = j + 1 → wa.cell? ⟨g3, j, none⟩ = some (.int .i64 lb)) := fun j hj => (hba.cell (p := ⟨g3, j, none⟩) hgs2).trans (HX7d.out j hj)
              rw [← hwa]
              obtain ⟨sb, hsb⟩ : ∃ sb, wd.heap.size = sb := ⟨_, rfl⟩
              simp only [hsb] at *
              have hsb6 : w6.heap.size ≤ sb := hszd
              have hpbs : pb < sb := by omega
              clear HC0 hOd hbeld hPd HX7d hba hwa hsb hszd hwq hws hwfq hwus
              by_cases hk0 : k = 0
              · have HST0 : Hid (stepsL fr up q s lev cs (k + 1) = stepsL fr up q s lev cs k ++ [(cx, cy, la, la, fr + (k : Int) * q, up + (k : Int) * s)]) := by
                  have h := HST.out
                  rw [HL0.out hk0, mn_same, mx_same] at h
                  exact h
                have hk0I : ¬ (0 : Int) < (k : Int) := by omega
                clear HX7a HST HL0 hk0 e2
                have hOr : Hid _ := hOa
                have hsl := hSa.lt
                have d0 := hSa.c 0
                have d1 := hSa.c 1
                have d2 := hSa.c 2
                have d3 := hSa.c 3
                have d4 := hSa.c 4
                have d5 := hSa.c 5
                have b0 := hPa.c 0
                have b1 := hPa.f 0
                have bl := hPa.lt
                simp at d0 d1 d2 d3 d4 d5 b0
                have hW6 := hbela.size
                have hk63 : k + 1 ≤ maxLen := by unfold maxLen; omega
                have hk48 : (k + 1) * 48 ≤ 140737488355328 := by omega
                have hkbs : w6.heap.size ≤ (wa.alloc (.cells #[.int .i64 cx, .int .i64 cy, .int .i64 la, .int .i64 la, .int .i64 (fr + (k : Int) * q), .int .i64 (up + (k : Int) * s)] 86)).heap.size := by simp; omega
                have HOK : Hid (∀ (v' : Value) (w1 : World), w1.ownsRow w6.heap.size 86 6 v' (k + 1) (valsPlanStep (stepsL fr up q s lev cs k) ++ [.int .i64 cx, .int .i64 cy, .int .i64 la, .int .i64 la, .int .i64 (fr + (k : Int) * q), .int .i64 (up + (k : Int) * s)]) → (wa.alloc (.cells #[.int .i64 cx, .int .i64 cy, .int .i64 la, .int .i64 la, .int .i64 (fr + (k : Int) * q), .int .i64 (up + (k : Int) * s)] 86)).grownBy w1 (Value.slice ao k cap).ownBlock →
                    ∃ g cp, v' = .slice (some ⟨g, 0, none⟩) (k + 1) cp ∧ Dr w1 pb [.slice ao k cap, .int .i64 LO, .int .i64 UP] ∧
                      (w1.setCell ⟨pb, 0, none⟩ (.slice (some ⟨g, 0, none⟩) (k + 1) cp)).ownsRow w6.heap.size 86 6 (.slice (some ⟨g, 0, none⟩) (k + 1) cp) (k + 1) (valsPlanStep (stepsL fr up q s lev cs (k + 1))) ∧ Bel2 w.heap.size pb w6 (w1.setCell ⟨pb, 0, none⟩ (.slice (some ⟨g, 0, none⟩) (k + 1) cp)) ∧
                      Dr (w1.setCell ⟨pb, 0, none⟩ (.slice (some ⟨g, 0, none⟩) (k + 1) cp)) pb [.slice (some ⟨g, 0, none⟩) (k + 1) cp, .int .i64 LO, .int .i64 UP]) := by
                  intro v' w1 hown hgrow
                  obtain ⟨g, cp, rfl⟩ := owns_pos hown
                  have hB1 : Bel2 w.heap.size pb w6 w1 := (hbela.alloc hB6s _).grow hgrow hB6s (fun j hj => (hOwn j hj).1)
                  have hD1 : Dr w1 pb [.slice ao k cap, .int .i64 LO, .int .i64 UP] := hPa.kept ((hgrow.block pb (by simp; omega) (fun e => by have := hOwn pb e.symm; omega)).trans (Below.heap_alloc _ _ _ bl)) (by have := hgrow.size; simp at this; omega)
                  refine ⟨g, cp, rfl, hD1, ?_, hB1.setCell (by show _ ≤ pb; omega) _, ?_⟩
                  · rw [HST0.out, valsPlanStep_snoc]
                    refine owns_kept hown (fun b h1 h2 => ?_)
                    have hbw : b ≠ pb := by omega
                    rw [Below.heap_setCell _ _ _ _ hbw]
                  · exact hD1.set 0 _ (by simp)
                clear hSa hPa hbela
                go_wp2_with (at_builtin; refine wpList_append_own_at _ rfl _ _ 50 rfl w6.heap.size 86 i0 (.agg #[.int .i64 0, .int .i64 0, .int .i64 0, .int .i64 0, .int .i64 0, .int .i64 0]) 6 48 Tryz.underlying50 hi hz0 hz1 hz2 rfl (by decide) _ _ _ rfl (hOa.alloc _) ⟨wa.heap.size, 0, none⟩ 1 1 [.int .i64 cx, .int .i64 cy, .int .i64 la, .int .i64 la, .int .i64 (fr + (k : Int) * q), .int .i64 (up + (k : Int) * s)] rfl rfl (news6 _ _ _ _ _ _ _ _) (one6 _ _ _ _ _ _) hk63 hk48 hkbs ?_)
                intro v' w1 hown hgrow _ _
                obtain ⟨g, cp, rfl, hD1, HF1, HF2, HF3⟩ := HOK.out v' w1 hown hgrow
                have hdl := hD1.lt
                have hdf0 := hD1.f 0
                have hdc := hD1.c 0
                simp at hdc
                have HF1 : Hid _ := HF1
                have HF2 : Hid _ := HF2
                have HF3 : Hid _ := HF3
                have hkm := hlt
                clear HOK hOa hown hgrow d0 d1 d2 d3 d4 d5 b0 b1 hD1 hOr
                go_wp2
                refine ⟨⟨k + 1, some ⟨g, 0, none⟩, cp, hkm, by simp, HF1.out, HF2.out, HF3.out⟩, ?_⟩
                simp [intOf]
                omega
              · obtain ⟨j, hj⟩ : ∃ j, k = j + 1 := ⟨k - 1, by omega⟩
                have e3 := HX7a.out j hj
                have hkp : (0 : Int) < (k : Int) := by omega
                have hkj : (k : Int) - 1 = (j : Int) := by omega
                have hwj : IntKind.i64.wrap (j : Int) = (j : Int) := by rw [IntKind.wrap_i64] <;> omega
                have hjI : (j : Int) < (cs.length : Int) := by omega
                have hnj : (cs.length ≤ j) = False := by simp; omega
                have HMIN := fun W => sMin lb la (mn lb la) W rfl
                have HMAX := fun W => sMax lb la (mx lb la) W rfl
                generalize mn lb la = mi at *
                generalize mx lb la = ma at *
                clear HX7a HL0 hk0 hj
                go_wp2_with fail
                have HC1 : CL g3 j k lb la wa.drew := ⟨e3, e2⟩
                have hOb : wa.drew.ownsRow w6.heap.size 86 6 (.slice ao k cap) k (valsPlanStep (stepsL fr up q s lev cs k)) := hOa.drew
                have hbelb : Bel2 w.heap.size pb w6 wa.drew := hbela.drew
                have hPb : Dr wa.drew pb [.slice ao k cap, .int .i64 LO, .int .i64 UP] := hPa.kept rfl (Nat.le_refl _)
                have hSb : Dr wa.drew sb [.int .i64 cx, .int .i64 cy, .int .i64 la, .int .i64 la, .int .i64 (fr + (k : Int) * q), .int .i64 (up + (k : Int) * s)] := hSa.kept rfl (Nat.le_refl _)
                refine wp_region_RC (CL g3 j k lb la) mixedP ?_
                clear e2 e3 hOa hbela hPa hSa
                generalize wa.drew = wx1 at *
                have hOa := hOb
                have hbela := hbelb
                have hPa := hPb
                have hSa := hSb
                clear hOb hbelb hPb hSb
                refine RC.take (i := 0) (v := .slice (some ⟨g3, 0, none⟩) cs.length lc) rfl (by kernel_rfl) (by kernel_rfl) (by kernel_rfl) (fun _ _ _ h => h) HC1 (by kernel_rfl) ?y36 ?r36
                case y36 => (intro W hW; clear hW; clear HC1 hOa hbela hPa hSa; go_simp)
                refine RC.take (i := 1) (v := .int .i64 (k : Int)) rfl (by kernel_rfl) (by kernel_rfl) (by kernel_rfl) (fun _ _ _ h => h) HC1 (by kernel_rfl) ?y37 ?r37
                case y37 => (intro W hW; clear hW; clear HC1 hOa hbela hPa hSa; go_simp)
                refine RC.take (i := 2) (v := .int .i64 (j : Int)) rfl (by kernel_rfl) (by kernel_rfl) (by kernel_rfl) (fun _ _ _ h => h) HC1 (by kernel_rfl) ?y38 ?r38
                case y38 => (intro W hW; clear hW; clear HC1 hOa hbela hPa hSa; go_simp)
                refine RC.take (i := 3) (v := .pointer (some ⟨g3, j, none⟩)) rfl (by kernel_rfl) (by kernel_rfl) (by kernel_rfl) (fun _ _ _ h => h) HC1 (by kernel_rfl) ?y39 ?r39
                case y39 => (intro W hW; clear hW; clear HC1 hOa hbela hPa hSa; go_simp)
                refine RC.take (i := 4) (v := .int .i64 lb) rfl (by kernel_rfl) (by kernel_rfl) (by kernel_rfl) (fun _ _ _ h => h) HC1 (by kernel_rfl) ?y40 ?r40
                case y40 => (intro W hW; obtain ⟨u0, u1⟩ := hW; clear HC1 hOa hbela hPa hSa; go_simp)
                refine RC.take (i := 5) (v := .slice (some ⟨g3, 0, none⟩) cs.length lc) rfl (by kernel_rfl) (by kernel_rfl) (by kernel_rfl) (fun _ _ _ h => h) HC1 (by kernel_rfl) ?y41 ?r41
                case y41 => (intro W hW; clear hW; clear HC1 hOa hbela hPa hSa; go_simp)
                refine RC.take (i := 6) (v := .int .i64 (k : Int)) rfl (by kernel_rfl) (by kernel_rfl) (by kernel_rfl) (fun _ _ _ h => h) HC1 (by kernel_rfl) ?y42 ?r42
                case y42 => (intro W hW; clear hW; clear HC1 hOa hbela hPa hSa; go_simp)
                refine RC.take (i := 7) (v := .pointer (some ⟨g3, k, none⟩)) rfl (by kernel_rfl) (by kernel_rfl) (by kernel_rfl) (fun _ _ _ h => h) HC1 (by kernel_rfl) ?y43 ?r43
                case y43 => (intro W hW; clear hW; clear HC1 hOa hbela hPa hSa; go_simp)
                refine RC.take (i := 8) (v := .int .i64 la) rfl (by kernel_rfl) (by kernel_rfl) (by kernel_rfl) (fun _ _ _ h => h) HC1 (by kernel_rfl) ?y44 ?r44
                case y44 => (intro W hW; obtain ⟨u0, u1⟩ := hW; clear HC1 hOa hbela hPa hSa; go_simp)
                refine RC.want (i := 9) (by kernel_rfl) rfl (by kernel_rfl) (fun K hK => ?_)
                go_simp
                refine (HMIN wx1).mono ?_
                rintro e w9 ⟨rfl, rfl⟩
                simp only
                refine hK _ _ HC1 ?_
                clear hK K
                refine RC.take (i := 10) (v := .pointer (some ⟨sb, 2, none⟩)) rfl (by kernel_rfl) (by kernel_rfl) (by kernel_rfl) (fun _ _ _ h => h) HC1 (by kernel_rfl) ?y45 ?r45
                case y45 => (intro W hW; clear hW; clear HC1 hOa hbela hPa hSa; go_simp)
                have hsl := hSa.lt
                have hsf := hSa.f 2
                have hsc := hSa.c 2
                simp at hsc
                have hSn := hSa.set 2 (.int .i64 mi) (by simp)
                have hOn := hOa.kept (row := some sb) (grown_setO sb 2 (.int .i64 mi)) (.inr (fun e => by have := hOwn sb e; omega))
                have hbeln := hbela.new (p := ⟨sb, 2, none⟩) hsb6 hB6s (.int .i64 mi)
                have hPn := hPa.kept (Below.heap_setCell wx1 ⟨sb, 2, none⟩ (.int .i64 mi) pb (by show pb ≠ sb; omega)) (by simp)
                simp only [List.set_cons_zero, List.set_cons_succ] at hSn
                have HCn : CL g3 j k lb la (wx1.setCell ⟨sb, 2, none⟩ (.int .i64 mi)) := HC1.kept (Below.heap_setCell wx1 ⟨sb, 2, none⟩ (.int .i64 mi) g3 (by show g3 ≠ sb; omega))
                refine RC.want (i := 11) (by kernel_rfl) rfl (by kernel_rfl) (fun K hK => ?_)
                go_simp
                refine hK _ _ HCn ?_
                clear hK K HC1 hsl hsf hsc hSa hOa hbela hPa
                refine RC.done (by kernel_rfl) ?_
                obtain ⟨e3, e2⟩ := HCn
                have hOa := hOn
                have hbela := hbeln
                have hPa := hPn
                have hSa := hSn
                clear hOn hbeln hPn hSn
                generalize wx1.setCell ⟨sb, 2, none⟩ (.int .i64 mi) = wy1 at *
                go_wp2_with fail
                have HC1 : CL g3 j k lb la wy1.drew := ⟨e3, e2⟩
                have hOb : wy1.drew.ownsRow w6.heap.size 86 6 (.slice ao k cap) k (valsPlanStep (stepsL fr up q s lev cs k)) := hOa.drew
                have hbelb : Bel2 w.heap.size pb w6 wy1.drew := hbela.drew
                have hPb : Dr wy1.drew pb [.slice ao k cap, .int .i64 LO, .int .i64 UP] := hPa.kept rfl (Nat.le_refl _)
                have hSb : Dr wy1.drew sb [.int .i64 cx, .int .i64 cy, .int .i64 mi, .int .i64 la, .int .i64 (fr + (k : Int) * q), .int .i64 (up + (k : Int) * s)] := hSa.kept rfl (Nat.le_refl _)
                refine wp_region_RC (CL g3 j k lb la) mixedP ?_
                clear e2 e3 hOa hbela hPa hSa
                generalize wy1.drew = wx2 at *
                have hOa := hOb
                have hbela := hbelb
                have hPa := hPb
                have hSa := hSb
                clear hOb hbelb hPb hSb
                refine RC.take (i := 0) (v := .slice (some ⟨g3, 0, none⟩) cs.length lc) rfl (by kernel_rfl) (by kernel_rfl) (by kernel_rfl) (fun _ _ _ h => h) HC1 (by kernel_rfl) ?y46 ?r46
                case y46 => (intro W hW; clear hW; clear HC1 hOa hbela hPa hSa; go_simp)
                refine RC.take (i := 1) (v := .int .i64 (k : Int)) rfl (by kernel_rfl) (by kernel_rfl) (by kernel_rfl) (fun _ _ _ h => h) HC1 (by kernel_rfl) ?y47 ?r47
                case y47 => (intro W hW; clear hW; clear HC1 hOa hbela hPa hSa; go_simp)
                refine RC.take (i := 2) (v := .int .i64 (j : Int)) rfl (by kernel_rfl) (by kernel_rfl) (by kernel_rfl) (fun _ _ _ h => h) HC1 (by kernel_rfl) ?y48 ?r48
                case y48 => (intro W hW; clear hW; clear HC1 hOa hbela hPa hSa; go_simp)
                refine RC.take (i := 3) (v := .pointer (some ⟨g3, j, none⟩)) rfl (by kernel_rfl) (by kernel_rfl) (by kernel_rfl) (fun _ _ _ h => h) HC1 (by kernel_rfl) ?y49 ?r49
                case y49 => (intro W hW; clear hW; clear HC1 hOa hbela hPa hSa; go_simp)
                refine RC.take (i := 4) (v := .int .i64 lb) rfl (by kernel_rfl) (by kernel_rfl) (by kernel_rfl) (fun _ _ _ h => h) HC1 (by kernel_rfl) ?y50 ?r50
                case y50 => (intro W hW; obtain ⟨u0, u1⟩ := hW; clear HC1 hOa hbela hPa hSa; go_simp)
                refine RC.take (i := 5) (v := .slice (some ⟨g3, 0, none⟩) cs.length lc) rfl (by kernel_rfl) (by kernel_rfl) (by kernel_rfl) (fun _ _ _ h => h) HC1 (by kernel_rfl) ?y51 ?r51
                case y51 => (intro W hW; clear hW; clear HC1 hOa hbela hPa hSa; go_simp)
                refine RC.take (i := 6) (v := .int .i64 (k : Int)) rfl (by kernel_rfl) (by kernel_rfl) (by kernel_rfl) (fun _ _ _ h => h) HC1 (by kernel_rfl) ?y52 ?r52
                case y52 => (intro W hW; clear hW; clear HC1 hOa hbela hPa hSa; go_simp)
                refine RC.take (i := 7) (v := .pointer (some ⟨g3, k, none⟩)) rfl (by kernel_rfl) (by kernel_rfl) (by kernel_rfl) (fun _ _ _ h => h) HC1 (by kernel_rfl) ?y53 ?r53
                case y53 => (intro W hW; clear hW; clear HC1 hOa hbela hPa hSa; go_simp)
                refine RC.take (i := 8) (v := .int .i64 la) rfl (by kernel_rfl) (by kernel_rfl) (by kernel_rfl) (fun _ _ _ h => h) HC1 (by kernel_rfl) ?y54 ?r54
                case y54 => (intro W hW; obtain ⟨u0, u1⟩ := hW; clear HC1 hOa hbela hPa hSa; go_simp)
                refine RC.want (i := 9) (by kernel_rfl) rfl (by kernel_rfl) (fun K hK => ?_)
                go_simp
                refine (HMAX wx2).mono ?_
                rintro e w9 ⟨rfl, rfl⟩
                simp only
                refine hK _ _ HC1 ?_
                clear hK K
                refine RC.take (i := 10) (v := .pointer (some ⟨sb, 3, none⟩)) rfl (by kernel_rfl) (by kernel_rfl) (by kernel_rfl) (fun _ _ _ h => h) HC1 (by kernel_rfl) ?y55 ?r55
                case y55 => (intro W hW; clear hW; clear HC1 hOa hbela hPa hSa; go_simp)
                have hsl := hSa.lt
                have hsf := hSa.f 3
                have hsc := hSa.c 3
                simp at hsc
                have hSn := hSa.set 3 (.int .i64 ma) (by simp)
                have hOn := hOa.kept (row := some sb) (grown_setO sb 3 (.int .i64 ma)) (.inr (fun e => by have := hOwn sb e; omega))
                have hbeln := hbela.new (p := ⟨sb, 3, none⟩) hsb6 hB6s (.int .i64 ma)
                have hPn := hPa.kept (Below.heap_setCell wx2 ⟨sb, 3, none⟩ (.int .i64 ma) pb (by show pb ≠ sb; omega)) (by simp)
                simp only [List.set_cons_zero, List.set_cons_succ] at hSn
                have HCn : CL g3 j k lb la (wx2.setCell ⟨sb, 3, none⟩ (.int .i64 ma)) := HC1.kept (Below.heap_setCell wx2 ⟨sb, 3, none⟩ (.int .i64 ma) g3 (by show g3 ≠ sb; omega))
                refine RC.want (i := 11) (by kernel_rfl) rfl (by kernel_rfl) (fun K hK => ?_)
                go_simp
                refine hK _ _ HCn ?_
                clear hK K HC1 hsl hsf hsc hSa hOa hbela hPa
                refine RC.done (by kernel_rfl) ?_
                obtain ⟨e3, e2⟩ := HCn
                have hOa := hOn
                have hbela := hbeln
                have hPa := hPn
                have hSa := hSn
                clear hOn hbeln hPn hSn
                generalize wx2.setCell ⟨sb, 3, none⟩ (.int .i64 ma) = wy2 at *
                clear e2 e3 HMIN HMAX
                have hOr : Hid _ := hOa
                have hsl := hSa.lt
                have d0 := hSa.c 0
                have d1 := hSa.c 1
                have d2 := hSa.c 2
                have d3 := hSa.c 3
                have d4 := hSa.c 4
                have d5 := hSa.c 5
                have b0 := hPa.c 0
                have b1 := hPa.f 0
                have bl := hPa.lt
                simp at d0 d1 d2 d3 d4 d5 b0
                have hW6 := hbela.size
                have hk63 : k + 1 ≤ maxLen := by unfold maxLen; omega
                have hk48 : (k + 1) * 48 ≤ 140737488355328 := by omega
                have hkbs : w6.heap.size ≤ (wy2.alloc (.cells #[.int .i64 cx, .int .i64 cy, .int .i64 mi, .int .i64 ma, .int .i64 (fr + (k : Int) * q), .int .i64 (up + (k : Int) * s)] 86)).heap.size := by simp; omega
                have HOK : Hid (∀ (v' : Value) (w1 : World), w1.ownsRow w6.heap.size 86 6 v' (k + 1) (valsPlanStep (stepsL fr up q s lev cs k) ++ [.int .i64 cx, .int .i64 cy, .int .i64 mi, .int .i64 ma, .int .i64 (fr + (k : Int) * q), .int .i64 (up + (k : Int) * s)]) → (wy2.alloc (.cells #[.int .i64 cx, .int .i64 cy, .int .i64 mi, .int .i64 ma, .int .i64 (fr + (k : Int) * q), .int .i64 (up + (k : Int) * s)] 86)).grownBy w1 (Value.slice ao k cap).ownBlock →
                    ∃ g cp, v' = .slice (some ⟨g, 0, none⟩) (k + 1) cp ∧ Dr w1 pb [.slice ao k cap, .int .i64 LO, .int .i64 UP] ∧
                      (w1.setCell ⟨pb, 0, none⟩ (.slice (some ⟨g, 0, none⟩) (k + 1) cp)).ownsRow w6.heap.size 86 6 (.slice (some ⟨g, 0, none⟩) (k + 1) cp) (k + 1) (valsPlanStep (stepsL fr up q s lev cs (k + 1))) ∧ Bel2 w.heap.size pb w6 (w1.setCell ⟨pb, 0, none⟩ (.slice (some ⟨g, 0, none⟩) (k + 1) cp)) ∧
                      Dr (w1.setCell ⟨pb, 0, none⟩ (.slice (some ⟨g, 0, none⟩) (k + 1) cp)) pb [.slice (some ⟨g, 0, none⟩) (k + 1) cp, .int .i64 LO, .int .i64 UP]) := by
                  intro v' w1 hown hgrow
                  obtain ⟨g, cp, rfl⟩ := owns_pos hown
                  have hB1 : Bel2 w.heap.size pb w6 w1 := (hbela.alloc hB6s _).grow hgrow hB6s (fun j hj => (hOwn j hj).1)
                  have hD1 : Dr w1 pb [.slice ao k cap, .int .i64 LO, .int .i64 UP] := hPa.kept ((hgrow.block pb (by simp; omega) (fun e => by have := hOwn pb e.symm; omega)).trans (Below.heap_alloc _ _ _ bl)) (by have := hgrow.size; simp at this; omega)
                  refine ⟨g, cp, rfl, hD1, ?_, hB1.setCell (by show _ ≤ pb; omega) _, ?_⟩
                  · rw [HST.out, valsPlanStep_snoc]
                    refine owns_kept hown (fun b h1 h2 => ?_)
                    have hbw : b ≠ pb := by omega
                    rw [Below.heap_setCell _ _ _ _ hbw]
                  · exact hD1.set 0 _ (by simp)
                clear hSa hPa hbela
                go_wp2_with (at_builtin; refine wpList_append_own_at _ rfl _ _ 50 rfl w6.heap.size 86 i0 (.agg #[.int .i64 0, .int .i64 0, .int .i64 0, .int .i64 0, .int .i64 0, .int .i64 0]) 6 48 Tryz.underlying50 hi hz0 hz1 hz2 rfl (by decide) _ _ _ rfl (hOa.alloc _) ⟨wy2.heap.size, 0, none⟩ 1 1 [.int .i64 cx, .int .i64 cy, .int .i64 mi, .int .i64 ma, .int .i64 (fr + (k : Int) * q), .int .i64 (up + (k : Int) * s)] rfl rfl (news6 _ _ _ _ _ _ _ _) (one6 _ _ _ _ _ _) hk63 hk48 hkbs ?_)
                intro v' w1 hown hgrow _ _
                obtain ⟨g, cp, rfl, hD1, HF1, HF2, HF3⟩ := HOK.out v' w1 hown hgrow
                have hdl := hD1.lt
                have hdf0 := hD1.f 0
                have hdc := hD1.c 0
                simp at hdc
                have HF1 : Hid _ := HF1
                have HF2 : Hid _ := HF2
                have HF3 : Hid _ := HF3
                have hkm := hlt
                clear HOK hOa hown hgrow d0 d1 d2 d3 d4 d5 b0 b1 hD1 hOr
                go_wp2
                refine ⟨⟨k + 1, some ⟨g, 0, none⟩, cp, hkm, by simp, HF1.out, HF2.out, HF3.out⟩, ?_⟩
                simp [intOf]
                omega
            · have hkn : k = cs.length := by omega
              subst hkn
              have hkI : ¬ (cs.length : Int) < (cs.length : Int) := by omega
              have hRr := hRB6.kept (hbel.oth rb (by omega) (by omega)) hbel.size
              have r0 := hRr.c 0
              have r1 := hRr.c 1
              have r2 := hRr.c 2
              have g0 := hRr.f 0
              have g1 := hRr.f 1
              have g2 := hRr.f 2
              have hrl := hRr.lt
              have p0' := hPr.c 0
              have p1' := hPr.c 1
              have p2' := hPr.c 2
              have hpl := hPr.lt
              simp at r0 r1 r2 p0' p1' p2'
              have HO : Hid _ := hO
              have HB : Hid _ := hB6.trans (hbel.bel.mono (Nat.le_refl _))
              have hz6' : w.heap.size ≤ w6.heap.size := by omega
              have hrb3 : ∀ b, w6.heap.size ≤ b → b ≠ rb := fun b h => by omega
              clear hbel hPr hcell6 hlc6 HFB6 hRB6 hRr hO hB6
              go_wp2
              refine bodyPost_ret (v := .tuple #[.agg #[.slice ao cs.length cap, .int .i64 LO, .int .i64 UP], .int .i64 0]) (by simp [results, Tryz.results15, go_sem, r0, r1, r2, hrl]) rfl ?_
              refine ⟨ao, cap, by rw [HP0b.out]; show _ = Ending.returned (.tuple #[.agg #[.slice _ (stepsL fr up q s lev cs cs.length).length _, _, _], _]); rw [HLS.out], ?_, ((HB.out.setCell hrb _).setCell hrb _).setCell hrb _⟩
              rw [HP0b.out]
              show World.ownsRow _ _ _ _ (.slice _ (stepsL fr up q s lev cs cs.length).length _) (stepsL fr up q s lev cs cs.length).length _
              rw [HLS.out]
              refine own_lo (owns_kept HO.out (fun b h1 h2 => ?_)) hz6'
              have hbw := hrb3 b h1
              rw [Below.heap_setCell _ _ _ _ hbw, Below.heap_setCell _ _ _ _ hbw, Below.heap_setCell _ _ _ _ hbw]
      · rw [pb_no g3]
        have r0 := hRB4.c 0
        have r1 := hRB4.c 1
        have r2 := hRB4.c 2
        have q0' := hRB4.f 0
        have q1' := hRB4.f 1
        have q2' := hRB4.f 2
        have rl := hRB4.lt
        simp at r0 r1 r2
        have HP : Hid (pathF bk nm = (([], 0, 0), 3)) := HP3.out trivial g3
        clear hFB4 hRB4
        go_wp2
        refine bodyPost_ret (v := .tuple #[.agg #[.slice none 0 0, .int .i64 0, .int .i64 0], .int .i64 3]) (by simp [results, Tryz.results15, go_sem, r0, r1, r2, rl]) rfl ?_
        refine ⟨none, 0, by rw [HP.out]; rfl, by rw [HP.out]; exact World.ownsRow_nil _ _ _ _, ?_⟩
        repeat' first
          | exact hB4
          | exact Below.setCell (by repeat' first | exact hB4 | (refine Below.setCell ?_ hrb _) | (refine Below.alloc ?_ (by simp; omega) _)) hrb _
          | exact Below.alloc (by repeat' first | exact hB4 | (refine Below.setCell ?_ hrb _) | (refine Below.alloc ?_ (by simp; omega) _)) (by simp; omega) _
  · rw [pb_no g1]
    have r0 := hRB1.c 0
    have r1 := hRB1.c 1
    have r2 := hRB1.c 2
    have q0' := hRB1.f 0
    have q1' := hRB1.f 1
    have q2' := hRB1.f 2
    have rl := hRB1.lt
    simp at r0 r1 r2
    have HP : Hid (pathF bk nm = (([], 0, 0), 1)) := path1 g1
    clear hBB1 hRB1
    go_wp2
    refine bodyPost_ret (v := .tuple #[.agg #[.slice none 0 0, .int .i64 0, .int .i64 0], .int .i64 1]) (by simp [results, Tryz.results15, go_sem, r0, r1, r2, rl]) rfl ?_
    refine ⟨none, 0, by rw [HP.out]; rfl, by rw [HP.out]; exact World.ownsRow_nil _ _ _ _, ?_⟩
    repeat' first
      | exact hB1
      | exact Below.setCell (by repeat' first | exact hB1 | (refine Below.setCell ?_ hrb _) | (refine Below.alloc ?_ (by simp; omega) _)) hrb _
      | exact Below.alloc (by repeat' first | exact hB1 | (refine Below.setCell ?_ hrb _) | (refine Below.alloc ?_ (by simp; omega) _)) (by simp; omega) _

end Pth
end Go.Proofs.YtgnjkpmbppmoeaaGreat
