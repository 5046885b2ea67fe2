/-
  For every path of flying, laws.FnExactFlyTube returns true, and the path reads behind the call as it read before: impl.FlyTube answers as the specification's does, the boxes, writes into no argument, keeps nothing of one, and its answer owns its memory.
  No condition of ours: the statement as given (Rows.FnExactFlyTubeSaid).
-/
import Derived.Test.YtpjacfnjjkoikaaKTsL
import Derived.Test.YtpjacfnjjkoikaaKBl2
import Derived.Deep.RegionWith
import Derived.ProofKit
import Derived.OpenShut
import Derived.ChangeOld
import Derived.Lib.LaidTab
import Derived.ChangeBears2
namespace Go.Proofs.Ytpjacfnjjkoikaa
namespace ExTube
open Go.RowKit
set_option linter.unusedSimpArgs false
set_option linter.unusedVariables false

set_option maxRecDepth 100000 in
set_option maxHeartbeats 16000000 in
theorem small (x0 : DFlyPath) (ao2_0 : Option Addr) (cap2_0 : Nat) (w : World) (p2_0 : SliceAt vFlyStep (old w) w ao2_0 cap2_0 x0.2.1) (hn : wFlyPath x0 ≤ 1048576) :
    Calls Try.prog 6 #[.agg #[.int .i64 x0.1.1, .int .i64 x0.1.2, .slice ao2_0 x0.2.1.length cap2_0, .int .i64 x0.2.2.1, .int .i64 x0.2.2.2]] w fun e w' => e = .returned (.bool true) ∧ Below w.heap.size w w' := by
  have hn0 : wFlyPath x0 ≤ 1048576 := by omega
  have hsz0 : szR (1048576) (wFlyPath x0) = 1048576 - (wFlyPath x0 : Int) := szR_yes (by omega)
  have hnn0 : decide ((1048576 - (wFlyPath x0 : Int)) < 0) = false := by simp; omega
  have HSW := fun ao2_0' cap2_0' W (u2_0 : SliceAt vFlyStep (old W) W ao2_0' cap2_0' x0.2.1) => Fly.sTubeA x0 ao2_0' cap2_0' W u2_0
  have HIW := fun ao2_0' cap2_0' W (u2_0 : SliceAt vFlyStep (old W) W ao2_0' cap2_0' x0.2.1) => Fly.iTubeA x0 ao2_0' cap2_0' W u2_0
  have hR0 : ((Fly.tubeOf x0 (Fly.spansF x0).1 (Fly.spansF x0).2)).length ≤ 1000000 := Nat.le_trans (Fly.tubeF_le x0) (by omega)
  obtain ⟨R0, hRe0⟩ : ∃ R, R = ((Fly.tubeOf x0 (Fly.spansF x0).1 (Fly.spansF x0).2)) := ⟨_, rfl⟩
  simp only [← hRe0] at HSW HIW hR0
  clear hRe0
  obtain ⟨w0, hw0⟩ : ∃ w0, w0 = (w.alloc (.cells #[.int .i64 x0.1.1, .int .i64 x0.1.2, .slice ao2_0 x0.2.1.length cap2_0, .int .i64 x0.2.2.1, .int .i64 x0.2.2.2] 26)) := ⟨_, rfl⟩
  have hz_0 : w0.heap.size = w.heap.size + 1 := by rw [hw0]; simp
  have B_0 : Below w.heap.size w w0 := by rw [hw0]; exact (Below.refl w.heap.size w).alloc (by simp) _
  have S0_0 : BxC (w.heap.size) #[.int .i64 x0.1.1, .int .i64 x0.1.2, .slice ao2_0 x0.2.1.length cap2_0, .int .i64 x0.2.2.1, .int .i64 x0.2.2.2] w0 := by rw [hw0]; exact BxC.new w _ _
  have HT := szFlyPath_any x0 ao2_0 cap2_0 1048576 w0 (by omega) (by omega) (p2_0.later B_0)
  rw [hsz0] at HT
  rw [hw0] at HT
  go_enter Try.func6, Try.ntmps6
  go_wp2_with fail
  refine HT.mono ?_
  rw [← hw0]
  rintro e w1 ⟨rfl, hb⟩
  clear HT hw0
  clear hsz0 
  have hz_1 : w0.heap.size ≤ w1.heap.size := hb.size
  have B_1 := B_0.trans (hb.mono (by omega))
  have S0_1 := S0_0.below hb (by omega)
  clear B_0 S0_0 hb
  obtain ⟨L0, hL0⟩ : ∃ L : Int, 1048576 - (wFlyPath x0 : Int) = L := ⟨_, rfl⟩
  simp only [hL0] at hnn0 ⊢
  clear hL0
  have c_S0_0 := S0_1 0
  have c_S0_1 := S0_1 1
  have c_S0_2 := S0_1 2
  have c_S0_3 := S0_1 3
  have c_S0_4 := S0_1 4
  simp at c_S0_0 c_S0_1 c_S0_2 c_S0_3 c_S0_4
  have HT := toFlyPath_any x0 ao2_0 cap2_0 w1 (p2_0.later B_1) hn0
  go_wp2_with fail
  refine HT.mono ?_
  rintro e w2 ⟨ao2_0p, cap2_0p, rfl, v2, hb⟩
  clear HT
  clear c_S0_0 c_S0_1 c_S0_2 c_S0_3 c_S0_4
  have hz_2 : w1.heap.size ≤ w2.heap.size := hb.size
  have B_2 := B_1.trans (hb.mono (by omega))
  have S0_2 := S0_1.below hb (by omega)
  clear B_1 S0_1 hb
  have v2_0_2 := v2.mono fresh_old
  clear v2
  have HT := HSW ao2_0p cap2_0p w2 v2_0_2
  go_wp2_with fail
  refine HT.mono ?_
  rintro e w3 ⟨wao, wcap, rfl, hO, hb⟩
  clear HT
  clear v2_0_2
  have hz_3 : w2.heap.size ≤ w3.heap.size := hb.size
  have B_3 := B_2.trans (hb.mono (by omega))
  have S0_3 := S0_2.below hb (by omega)
  clear B_2 S0_2 hb
  have Wt_3 := atFlyBox_owns hO
  have hWin : R0 = [] ∨ ∀ g, wao = some ⟨g, 0, none⟩ → g < w3.heap.size := .inr fun g hg => (hO.lt g (by rw [hg]; rfl)).2
  clear hO
  clear HSW
  have c_S0_0 := S0_3 0
  have c_S0_1 := S0_3 1
  have c_S0_2 := S0_3 2
  have c_S0_3 := S0_3 3
  have c_S0_4 := S0_3 4
  simp at c_S0_0 c_S0_1 c_S0_2 c_S0_3 c_S0_4
  have HT := toFlyPath_sh x0 ao2_0 cap2_0 w3 (p2_0.later B_3) hn0
  go_wp2_with fail
  refine HT.mono ?_
  rintro e w4 ⟨ao2_0q, cap2_0q, rfl, ⟨v2, s2⟩, hb⟩
  clear HT
  clear c_S0_0 c_S0_1 c_S0_2 c_S0_3 c_S0_4
  have hz_4 : w3.heap.size ≤ w4.heap.size := hb.size
  have B_4 := B_3.trans (hb.mono (by omega))
  have S0_4 := S0_3.below hb (by omega)
  have Wt_4 := Wt_3.later hb
  clear B_3 S0_3 Wt_3 hb
  have x2_0_4 := v2.mono fresh_old
  clear v2
  have Hx2_0_4 := s2
  clear s2
  have pc_S0_0 := S0_4 0
  have pc_S0_1 := S0_4 1
  have pc_S0_2 := S0_4 2
  have pc_S0_3 := S0_4 3
  have pc_S0_4 := S0_4 4
  simp at pc_S0_0 pc_S0_1 pc_S0_2 pc_S0_3 pc_S0_4
  have py_S0 : w.heap.size < w4.heap.size := by omega
  obtain ⟨w5, hwb0⟩ : ∃ W', W' = w4.alloc (.cells #[.int .i64 x0.1.1, .int .i64 x0.1.2, .slice ao2_0q x0.2.1.length cap2_0q, .int .i64 x0.2.2.1, .int .i64 x0.2.2.2] 34) := ⟨_, rfl⟩
  have hb : Below w4.heap.size w4 w5 := by rw [hwb0]; exact (Below.refl _ _).alloc (Nat.le_refl _) _
  have hbx : BxC (w4.heap.size) #[.int .i64 x0.1.1, .int .i64 x0.1.2, .slice ao2_0q x0.2.1.length cap2_0q, .int .i64 x0.2.2.1, .int .i64 x0.2.2.2] w5 := by rw [hwb0]; exact BxC.new _ _ _
  have hzl_X0 : w4.heap.size < w5.heap.size := by rw [hwb0]; simp
  have hz_5 : w4.heap.size ≤ w5.heap.size := hb.size
  have B_5 := B_4.trans (hb.mono (by omega))
  have S0_5 := S0_4.below hb (by omega)
  have Wt_5 := Wt_4.later hb
  have x2_0_5 := x2_0_4.later hb
  have Hx2_0_5 := Hx2_0_4.stays (w' := w5) (fun b hb' => hb.block b (by have := hb'.2; omega))
  clear B_4 S0_4 Wt_4 x2_0_4 Hx2_0_4 hb
  have X0_5 := hbx
  clear hbx
  have HT := HIW ao2_0q cap2_0q w5 x2_0_5
  rw [hwb0] at HT
  go_wp2_with fail
  refine HT.mono ?_
  rw [← hwb0]
  rintro e w6 ⟨gao, gcap, rfl, hO, hb⟩
  clear HT hwb0 pc_S0_0 pc_S0_1 pc_S0_2 pc_S0_3 pc_S0_4 py_S0
  have hz_6 : w5.heap.size ≤ w6.heap.size := hb.size
  have B_6 := B_5.trans (hb.mono (by omega))
  have S0_6 := S0_5.below hb (by omega)
  have Wt_6 := Wt_5.later hb
  have x2_0_6 := x2_0_5.later hb
  have Hx2_0_6 := Hx2_0_5.stays (w' := w6) (fun b hb' => hb.block b (by have := hb'.2; omega))
  have X0_6 := X0_5.below hb (by omega)
  clear B_5 S0_5 Wt_5 x2_0_5 Hx2_0_5 X0_5 hb
  have Go_6 := hO
  have hGin : ∀ g, gao = some ⟨g, 0, none⟩ → g < w6.heap.size := fun g hg => (hO.lt g (by rw [hg]; rfl)).2
  clear hO
  have hGt := atFlyBox_owns Go_6
  have HT := eqFlyBoxRS gao wao gcap wcap R0 w6 (by unfold maxLen; omega) hGt Wt_6
  go_wp2_with fail
  refine HT.mono ?_
  rintro e w7 ⟨rfl, hb⟩
  clear HT
  have hz_7 : w6.heap.size ≤ w7.heap.size := hb.size
  have B_7 := B_6.trans (hb.mono (by omega))
  have S0_7 := S0_6.below hb (by omega)
  have Wt_7 := Wt_6.later hb
  have x2_0_7 := x2_0_6.later hb
  have Hx2_0_7 := Hx2_0_6.stays (w' := w7) (fun b hb' => hb.block b (by have := hb'.2; omega))
  have X0_7 := X0_6.below hb (by omega)
  have Go_7 := owns_below Go_6 hb
  clear B_6 S0_6 Wt_6 x2_0_6 Hx2_0_6 X0_6 Go_6 hb
  clear hGt
  have c_S0_0 := S0_7 0
  have c_S0_1 := S0_7 1
  have c_S0_2 := S0_7 2
  have c_S0_3 := S0_7 3
  have c_S0_4 := S0_7 4
  simp at c_S0_0 c_S0_1 c_S0_2 c_S0_3 c_S0_4
  have c_X0_0 := X0_7 0
  have c_X0_1 := X0_7 1
  have c_X0_2 := X0_7 2
  have c_X0_3 := X0_7 3
  have c_X0_4 := X0_7 4
  simp at c_X0_0 c_X0_1 c_X0_2 c_X0_3 c_X0_4
  have hbd : Below w7.heap.size w7 w7.drew := (Below.refl _ _).drew
  have d2_0 := x2_0_7.later hbd
  have HT := toFlyPath_any x0 ao2_0 cap2_0 w7.drew (p2_0.later (B_7.trans (hbd.mono (by omega)))) hn0
  have hxd : w4.heap.size < w7.drew.heap.size := by show _ < w7.heap.size; omega
  go_wp2_with fail
  go_region_with (first | (go_at_call 11; refine HT.mono ?_; rintro e w8 ⟨ao2_0r, cap2_0r, rfl, v2, hb1⟩; have k0 := (hb1.cell (p := ⟨w4.heap.size, 0, none⟩) hxd).trans c_X0_0; have k1 := (hb1.cell (p := ⟨w4.heap.size, 1, none⟩) hxd).trans c_X0_1; have k2 := (hb1.cell (p := ⟨w4.heap.size, 2, none⟩) hxd).trans c_X0_2; have k3 := (hb1.cell (p := ⟨w4.heap.size, 3, none⟩) hxd).trans c_X0_3; have k4 := (hb1.cell (p := ⟨w4.heap.size, 4, none⟩) hxd).trans c_X0_4) | (go_at_call 14; refine (eqFlyPath_any x0 ao2_0q cap2_0q ao2_0r cap2_0r _ (d2_0.later hb1) (v2.mono fresh_old) hn0).mono ?_; rintro e w9 ⟨rfl, hb2⟩))
  all_goals
    have hb : Below w7.heap.size w7 w9 := (hbd.trans hb1).trans (hb2.mono (show w7.drew.heap.size ≤ w8.heap.size from hb1.size))
    clear HT hbd hb1 hb2 hxd d2_0 v2 k0 k1 k2 k3 k4 c_S0_0 c_S0_1 c_S0_2 c_S0_3 c_S0_4 c_X0_0 c_X0_1 c_X0_2 c_X0_3 c_X0_4
    clear x2_0_7
    have hz_8 : w7.heap.size ≤ w9.heap.size := hb.size
    have B_8 := B_7.trans (hb.mono (by omega))
    have S0_8 := S0_7.below hb (by omega)
    have Wt_8 := Wt_7.later hb
    have Hx2_0_8 := Hx2_0_7.stays (w' := w9) (fun b hb' => hb.block b (by have := hb'.2; omega))
    have X0_8 := X0_7.below hb (by omega)
    have Go_8 := owns_below Go_7 hb
    clear B_7 S0_7 Wt_7 Hx2_0_7 X0_7 Go_7 hb
    have hk0 : (0 : Int) ≤ 1 := by omega
    have c_X0_0 := X0_8 0
    have c_X0_1 := X0_8 1
    have c_X0_2 := X0_8 2
    have c_X0_3 := X0_8 3
    have c_X0_4 := X0_8 4
    simp at c_X0_0 c_X0_1 c_X0_2 c_X0_3 c_X0_4
    have hle_2_0 := cnFlyStepS_le x0.2.1
    have hcb0 : (cnFlyStepS x0.2.1) ≤ 268435456 := by have := hn0; unfold wFlyPath at this; omega
    clear hle_2_0
    have HT := markFlyPath_any (.int .i64 x0.1.1) (.int .i64 x0.1.2) (.int .i64 x0.2.2.1) (.int .i64 x0.2.2.2) ao2_0q x0.2.1.length cap2_0q (cnFlyStepS x0.2.1) 1 w3.heap.size w4.heap.size w9 Hx2_0_8 (by omega) (by omega) (by omega) (by omega)
    go_wp2_with fail
    refine HT.mono ?_
    rintro e w10 ⟨rfl, hS⟩
    clear HT
    clear c_X0_0 c_X0_1 c_X0_2 c_X0_3 c_X0_4
    clear Hx2_0_8 X0_8
    have hz_9 : w9.heap.size ≤ w10.heap.size := hS.below.size
    have B_9 := B_8.trans (hS.below.mono (by omega))
    have S0_9 := S0_8.below hS.below (by omega)
    have Wt_9 := (show _ from Wt_8) |> fun hold => (by
      rcases hWin with h0 | h0
      · exact .inl h0
      · exact hold.kept (fun g h1 h2 => hS.below.block g (by have := h0 g h1; omega)) hS.below.size : AtFlyBox w10 wao R0)
    have Go_9 := owns_kept Go_8 (w' := w10) (fun g h1 h2 => hS.above g (by omega) h2)
    clear B_8 S0_8 Wt_8 Go_8 hS
    obtain ⟨kk0, hkk⟩ : ∃ kk : Int, 1 + (((cnFlyStepS x0.2.1) : Nat) : Int) = kk := ⟨_, rfl⟩
    have hkb0 : 0 ≤ kk0 ∧ kk0 ≤ 268436456 := by omega
    rw [hkk]
    clear hkk hcb0
    have hkd : decide (kk0 < 0) = false := by simp; omega
    have hkn : ¬ kk0 < 0 := by omega
    have hGt := atFlyBox_owns Go_9
    have HT := eqFlyBoxRS gao wao gcap wcap R0 w10 (by unfold maxLen; omega) hGt Wt_9
    go_wp2_with fail
    refine HT.mono ?_
    rintro e w11 ⟨rfl, hb⟩
    clear HT
    have hz_10 : w10.heap.size ≤ w11.heap.size := hb.size
    have B_10 := B_9.trans (hb.mono (by omega))
    have S0_10 := S0_9.below hb (by omega)
    have Wt_10 := Wt_9.later hb
    have Go_10 := owns_below Go_9 hb
    clear B_9 S0_9 Wt_9 Go_9 hb
    clear hGt
    have HT := markFlyBoxR gao gcap w5.heap.size 1 R0 w11 (by omega) (by omega) (by omega) Go_10
    go_wp2_with fail
    refine HT.mono ?_
    rintro e w12 ⟨rfl, hb, hA⟩
    clear HT
    clear Go_10
    have hb := And.intro hb (trivial : True)
    have hz_11 : w11.heap.size ≤ w12.heap.size := hb.1.size
    have B_11 := B_10.trans (hb.1.mono (by omega))
    have S0_11 := S0_10.below hb.1 (by omega)
    have Wt_11 := (show _ from Wt_10) |> fun hold => (by
      rcases hWin with h0 | h0
      · exact .inl h0
      · exact hold.kept (fun g h1 h2 => hb.1.block g (by have := h0 g h1; omega)) hb.1.size : AtFlyBox w12 wao R0)
    clear B_10 S0_10 Wt_10 hb
    have Gt_11 := hA
    clear hA
    obtain ⟨LL, hLL⟩ : ∃ LL : Int, ((1 + 6 * R0.length : Nat) : Int) = LL := ⟨_, rfl⟩
    have hLb : 0 ≤ LL := by omega
    have hll : ¬ (LL < 0) := by omega
    have hld : decide (LL < 0) = false := by simp; omega
    have hlq : (LL != LL) = false := by simp
    rw [hLL]
    have HH := heldFlyBoxR gao gcap 1 R0.length w12 (by omega) (by omega) Gt_11
    rw [hLL] at HH
    have HT := HH
    go_wp2_with fail
    refine HT.mono ?_
    rintro e w13 ⟨rfl, hb⟩
    clear HT
    clear HH
    have hz_12 : w12.heap.size ≤ w13.heap.size := hb.size
    have B_12 := B_11.trans (hb.mono (by omega))
    have S0_12 := S0_11.below hb (by omega)
    have Wt_12 := Wt_11.later hb
    have Gt_12 := Gt_11.later hb
    clear B_11 S0_11 Wt_11 Gt_11 hb
    have c_S0_0 := S0_12 0
    have c_S0_1 := S0_12 1
    have c_S0_2 := S0_12 2
    have c_S0_3 := S0_12 3
    have c_S0_4 := S0_12 4
    simp at c_S0_0 c_S0_1 c_S0_2 c_S0_3 c_S0_4
    have HT := toFlyPath_any x0 ao2_0 cap2_0 w13 (p2_0.later B_12) hn0
    go_wp2_with fail
    refine HT.mono ?_
    rintro e w14 ⟨ao2_0s, cap2_0s, rfl, v2, hb⟩
    clear HT
    clear c_S0_0 c_S0_1 c_S0_2 c_S0_3 c_S0_4
    have hz_13 : w13.heap.size ≤ w14.heap.size := hb.size
    have B_13 := B_12.trans (hb.mono (by omega))
    have S0_13 := S0_12.below hb (by omega)
    have Wt_13 := Wt_12.later hb
    have Gt_13 := Gt_12.later hb
    clear B_12 S0_12 Wt_12 Gt_12 hb
    have z2_0_13 := v2.mono fresh_old
    clear v2
    have HT := HIW ao2_0s cap2_0s w14 z2_0_13
    go_wp2_with fail
    refine HT.mono ?_
    rintro e w15 ⟨hao, hcap, rfl, hO, hb⟩
    clear HT
    clear z2_0_13
    have hz_14 : w14.heap.size ≤ w15.heap.size := hb.size
    have B_14 := B_13.trans (hb.mono (by omega))
    have S0_14 := S0_13.below hb (by omega)
    have Wt_14 := Wt_13.later hb
    have Gt_14 := Gt_13.later hb
    clear B_13 S0_13 Wt_13 Gt_13 hb
    clear HIW
    have Ht_14 := atFlyBox_owns hO
    clear hO
    have HT := eqFlyBoxRS hao wao hcap wcap R0 w15 (by unfold maxLen; omega) Ht_14 Wt_14
    go_wp2_with fail
    refine HT.mono ?_
    rintro e w16 ⟨rfl, hb⟩
    clear HT
    have hz_15 : w15.heap.size ≤ w16.heap.size := hb.size
    have B_15 := B_14.trans (hb.mono (by omega))
    have S0_15 := S0_14.below hb (by omega)
    have Wt_15 := Wt_14.later hb
    have Gt_15 := Gt_14.later hb
    have Ht_15 := Ht_14.later hb
    clear B_14 S0_14 Wt_14 Gt_14 Ht_14 hb
    clear Ht_15 Wt_15
    have HH := heldFlyBoxR gao gcap 1 R0.length w16 (by omega) (by omega) Gt_15
    rw [hLL] at HH
    have HT := HH
    go_wp2_with fail
    refine HT.mono ?_
    rintro e w17 ⟨rfl, hb⟩
    clear HT
    clear HH
    have hz_16 : w16.heap.size ≤ w17.heap.size := hb.size
    have B_16 := B_15.trans (hb.mono (by omega))
    have S0_16 := S0_15.below hb (by omega)
    have Gt_16 := Gt_15.later hb
    clear B_15 S0_15 Gt_15 hb
    go_wp2
    go_ret
    exact ⟨rfl, B_16⟩

set_option maxRecDepth 100000 in
set_option maxHeartbeats 2000000 in
theorem great0 (x0 : DFlyPath) (ao2_0 : Option Addr) (cap2_0 : Nat) (w : World) (p2_0 : SliceAt vFlyStep (old w) w ao2_0 cap2_0 x0.2.1) (hx : ¬ wFlyPath x0 ≤ 1048576) :
    Calls Try.prog 6 #[.agg #[.int .i64 x0.1.1, .int .i64 x0.1.2, .slice ao2_0 x0.2.1.length cap2_0, .int .i64 x0.2.2.1, .int .i64 x0.2.2.2]] w fun e w' => e = .returned (.bool true) ∧ Below w.heap.size w w' := by
  have B0 : Below w.heap.size w (w.alloc (.cells #[.int .i64 x0.1.1, .int .i64 x0.1.2, .slice ao2_0 x0.2.1.length cap2_0, .int .i64 x0.2.2.1, .int .i64 x0.2.2.2] 26)) := (Below.refl w.heap.size w).alloc (by simp) _
  have hs : szR (1048576) (wFlyPath x0) = -1 := szR_no (by omega)
  have HT := szFlyPath_any x0 ao2_0 cap2_0 1048576 _ (by omega) (by omega) (p2_0.later B0)
  rw [hs] at HT
  have S0_0 : BxC (w.heap.size) #[.int .i64 x0.1.1, .int .i64 x0.1.2, .slice ao2_0 x0.2.1.length cap2_0, .int .i64 x0.2.2.1, .int .i64 x0.2.2.2] (w.alloc (.cells #[.int .i64 x0.1.1, .int .i64 x0.1.2, .slice ao2_0 x0.2.1.length cap2_0, .int .i64 x0.2.2.1, .int .i64 x0.2.2.2] 26)) := by have h := (BxC.new w #[.int .i64 x0.1.1, .int .i64 x0.1.2, .slice ao2_0 x0.2.1.length cap2_0, .int .i64 x0.2.2.1, .int .i64 x0.2.2.2] 26); simpa using h
  have z0 : w.heap.size + 1 ≤ ((w.alloc (.cells #[.int .i64 x0.1.1, .int .i64 x0.1.2, .slice ao2_0 x0.2.1.length cap2_0, .int .i64 x0.2.2.1, .int .i64 x0.2.2.2] 26))).heap.size := by simp
  go_enter Try.func6, Try.ntmps6
  go_wp2_with fail
  refine HT.mono ?_
  rintro e w1 ⟨rfl, hb⟩
  have B1 := B0.trans (hb.mono B0.size)
  have S0_1 := S0_0.below hb (by omega)
  have z1 := Nat.le_trans z0 hb.size
  clear HT hs hb z0 B0 S0_0
  go_wp2
  go_ret
  exact ⟨rfl, B1⟩

theorem walked (x0 : DFlyPath) (ao2_0 : Option Addr) (cap2_0 : Nat) (w : World) (p2_0 : SliceAt vFlyStep (old w) w ao2_0 cap2_0 x0.2.1) :
    Calls Try.prog 6 #[.agg #[.int .i64 x0.1.1, .int .i64 x0.1.2, .slice ao2_0 x0.2.1.length cap2_0, .int .i64 x0.2.2.1, .int .i64 x0.2.2.2]] w fun e w' => e = .returned (.bool true) ∧ Below w.heap.size w w' := by
  rcases (Decidable.em (wFlyPath x0 ≤ 1048576)).symm with hx | hn0
  · exact great0 x0 ao2_0 cap2_0 w p2_0 hx
  · exact small x0 ao2_0 cap2_0 w p2_0 hn0

theorem opFlyKind : Opens Try.prog 23 vFlyKind :=
  opens_struct Try.underlying23 (by kernel_rfl) (opensFs_cons rfl (by kernel_rfl) (opens_int Try.underlying3) (opensFs_one rfl (by kernel_rfl) (opens_int Try.underlying3)))
theorem opFlyStep : Opens Try.prog 100 vFlyStep :=
  opens_struct Try.underlying100 (by kernel_rfl) (opensFs_cons rfl (by kernel_rfl) (opens_int Try.underlying3) (opensFs_cons rfl (by kernel_rfl) (opens_int Try.underlying3) (opensFs_cons rfl (by kernel_rfl) (opens_int Try.underlying3) (opensFs_cons rfl (by kernel_rfl) (opens_int Try.underlying3) (opensFs_cons rfl (by kernel_rfl) (opens_int Try.underlying3) (opensFs_cons rfl (by kernel_rfl) (opens_int Try.underlying3) (opensFs_one rfl (by kernel_rfl) (opens_bool Try.underlying4))))))))
theorem opFlyPath : Opens Try.prog 26 vFlyPath :=
  opens_struct Try.underlying26 (by kernel_rfl) (opensFs_cons rfl (by kernel_rfl) opFlyKind (opensFs_cons rfl (by kernel_rfl) (opens_slice Try.underlying24 (by kernel_rfl) (by decide) opFlyStep) (opensFs_cons rfl (by kernel_rfl) (opens_int Try.underlying3) (opensFs_one rfl (by kernel_rfl) (opens_int Try.underlying3)))))

open Go.ChangeShapes Go.WideShapes Go.ChangeAt
theorem own : ownKnob Try.prog.godebug = none := by kernel_rfl
theorem laidOut : laidOutB Try.prog = true := by kernel_rfl

set_option maxRecDepth 100000 in
theorem lifted (os : Os) (started : os.Started) (H : Type) (enc : TypeId × Value → H) :
    ReturnsInHanded {} Try.checked os 6 .any (Rows.fnExactFlyTubeSpec.pre6 enc Try.prog Try.f6 Rows.fnExactFlyTubeRow.domain false) (Rows.fnExactFlyTubeSpec.post enc Try.prog Try.f6 false true false false) := by
  refine returnsInHanded_of_change (C := Try.checked) own started (by kernel_rfl) Try.func6
    (ChangeSpec.witness6 (enc := enc) (C := Try.checked) false ⟨#[], #[.agg #[.int .i64 0, .int .i64 0, .slice none 0 0, .int .i64 0, .int .i64 0]], []⟩ 8 (by kernel_rfl) (by kernel_rfl) (by kernel_rfl) (by kernel_rfl)) ?_
  intro W base args ds gs before hval0 hW hcnd _
  have hval : ∀ (j : Nat) t v, Try.f6.params[j]? = some t → args[j]? = some v → Value.okWide Try.prog W .any base t v := hval0
  have hW' := hW
  obtain ⟨p, q, hA0, hV, rfl, hfz, hnd⟩ := hW
  have hA : DataW.TrodAll enc Try.prog W 0 (fun _ => true) true Try.f6.params.toList args.toList ds p := hA0
  rw [Try.params6] at hA hval
  have hlt := hA.lt
  obtain ⟨v0, vs0, d0, ds0, pp0, qq0, hargs, rfl, rfl, h0, r0⟩ := trodAll_cons hA
  obtain ⟨rfl, rfl, rfl⟩ := trodAll_nil r0
  obtain rfl : args = #[v0] := by cases args; simp_all
  obtain ⟨rfl, rfl⟩ := trodVars_none hV
  obtain ⟨cs, rfl, hcs⟩ := okWide_struct Try.underlying26 (hval 0 26 v0 rfl rfl)
  obtain ⟨x0, ao2_0, cap2_0, hx0, p2_0⟩ : ∃ (x0 : DFlyPath) (ao2_0 : Option Addr) (cap2_0 : Nat) , cs = #[.int .i64 x0.1.1, .int .i64 x0.1.2, .slice ao2_0 x0.2.1.length cap2_0, .int .i64 x0.2.2.1, .int .i64 x0.2.2.2] ∧ SliceAt vFlyStep (old W) W ao2_0 cap2_0 x0.2.1 := by
    obtain ⟨fl, hy⟩ := h0
    obtain ⟨x, hx⟩ := opFlyPath _ _ _ _ _ _ _ _ _ hy
    obtain ⟨ao2, cap2, hc, u0, u1, u2, u3, u4⟩ := cells_FlyPath hx
    exact ⟨x, ao2, cap2, Array.ext' hc, u2⟩
  subst hx0
  clear hA0 hval0
  refine (walked x0 ao2_0 cap2_0 W p2_0).mono fun e W' ⟨he, bel⟩ => ?_
  subst he
  exact ⟨_, rfl, _, _, _, [], _, _, hW', trodAll_mk1 (shut_bool Try.underlying4 _), (trodAll_cons_mk (Below.trod laidOut (by kernel_rfl) (of_decide_eq_true (by kernel_rfl)) h0 bel (fun y hy => hlt y (by simp [hy]))) trodAll_mk0), rfl, bel.frame _, fun h => by cases h⟩

theorem over : Rows.fnExactFlyTubeRow.holds Try.pinned (OpenSpec.ofChange Rows.fnExactFlyTubeSpec) :=
  OpenClaim.holds_of_wide 6 Try.f6 rfl rfl rfl rfl rfl rfl rfl ⟨rfl, rfl, rfl, rfl, rfl⟩ rfl rfl rfl rfl rfl (by kernel_rfl) Try.func6 (by kernel_rfl)
    (of_decide_eq_true (by kernel_rfl)) (by unfold Func.isWrapper; first | (rw [if_pos (by decide +kernel)]; kernel_rfl) | (rw [if_neg (by decide +kernel)]; exact ⟨rfl, rfl⟩))
    (fun os started H enc _ => lifted os started H enc)
end ExTube

theorem exactTube_proved : Rows.FnExactFlyTubeSaid := ExTube.over
#print axioms exactTube_proved
end Go.Proofs.Ytpjacfnjjkoikaa
