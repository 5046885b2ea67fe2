/- DERIVED. spec.l2SectorsOk: its walk (its ways written out by wip/tools/mk_s6.py). -/
import Derived.Test.YthkpjljhjdjbfaaDoorSkyS5
import Derived.Test.YthkpjljhjdjbfaaDoorSkyQ
namespace Go.Proofs.YthkpjljhjdjbfaaDoor
open Go.RowKit Go.Sort
set_option linter.unusedSimpArgs false
set_option linter.unusedVariables false

def BlocksPre (W H L : Int) (bs : List DSkyBlock) (m : Nat) : Prop := ∀ t (ht : t < bs.length), t < m → BlockOk W H L (bs[t]'ht) ∧ ∀ h0 : 0 < t, BlockLess (bs[t - 1]'(by omega)) (bs[t]'ht)

theorem blockOk_yes (x : DSky) (ao3 : Option Addr) (cap3 : Nat) (ao4 : Option Addr) (cap4 : Nat) (ao5 : Option Addr) (cap5 : Nat) (ao6 : Option Addr) (cap6 : Nat) (b : DSkyBlock) (w : World) (h : BlockOk x.1 x.2.1 x.2.2.1 b) :
    Calls Tryd.prog 57 #[.agg (skyCells x ao3 cap3 ao4 cap4 ao5 cap5 ao6 cap6), .agg #[.int .i64 (b).1, .int .i64 (b).2.1, .int .i64 (b).2.2.1, .int .i64 (b).2.2.2.1, .int .i64 (b).2.2.2.2.1, .int .i64 (b).2.2.2.2.2]] w fun e w' => e = .returned (.bool true) ∧ Below w.heap.size w w' :=
  (blockOk_both x ao3 cap3 ao4 cap4 ao5 cap5 ao6 cap6 b w).mono fun e w' h1 => by
    rcases h1 with ⟨⟨_, h2⟩ | ⟨h2, _⟩, h3⟩
    · exact ⟨h2, by rw [h3]; exact ((Below.refl _ _).alloc (Nat.le_refl _) _).alloc (by simp) _⟩
    · exact absurd h h2

theorem blockOk_no (x : DSky) (ao3 : Option Addr) (cap3 : Nat) (ao4 : Option Addr) (cap4 : Nat) (ao5 : Option Addr) (cap5 : Nat) (ao6 : Option Addr) (cap6 : Nat) (b : DSkyBlock) (w : World) (h : ¬ BlockOk x.1 x.2.1 x.2.2.1 b) :
    Calls Tryd.prog 57 #[.agg (skyCells x ao3 cap3 ao4 cap4 ao5 cap5 ao6 cap6), .agg #[.int .i64 (b).1, .int .i64 (b).2.1, .int .i64 (b).2.2.1, .int .i64 (b).2.2.2.1, .int .i64 (b).2.2.2.2.1, .int .i64 (b).2.2.2.2.2]] w fun e w' => e = .returned (.bool false) ∧ Below w.heap.size w w' :=
  (blockOk_both x ao3 cap3 ao4 cap4 ao5 cap5 ao6 cap6 b w).mono fun e w' h1 => by
    rcases h1 with ⟨⟨h2, _⟩ | ⟨_, h2⟩, h3⟩
    · exact absurd h2 h
    · exact ⟨h2, by rw [h3]; exact ((Below.refl _ _).alloc (Nat.le_refl _) _).alloc (by simp) _⟩

theorem less_yes (a b : DSkyBlock) (w : World) (h : BlockLess a b) :
    Calls Tryd.prog 58 #[.agg #[.int .i64 (a).1, .int .i64 (a).2.1, .int .i64 (a).2.2.1, .int .i64 (a).2.2.2.1, .int .i64 (a).2.2.2.2.1, .int .i64 (a).2.2.2.2.2], .agg #[.int .i64 (b).1, .int .i64 (b).2.1, .int .i64 (b).2.2.1, .int .i64 (b).2.2.2.1, .int .i64 (b).2.2.2.2.1, .int .i64 (b).2.2.2.2.2]] w fun e w' => e = .returned (.bool true) ∧ Below w.heap.size w w' :=
  (less_both a b w).mono fun e w' h1 => by
    rcases h1 with ⟨⟨_, h2⟩ | ⟨h2, _⟩, h3⟩
    · exact ⟨h2, by rw [h3]; exact ((Below.refl _ _).alloc (Nat.le_refl _) _).alloc (by simp) _⟩
    · exact absurd h h2

theorem less_no (a b : DSkyBlock) (w : World) (h : ¬ BlockLess a b) :
    Calls Tryd.prog 58 #[.agg #[.int .i64 (a).1, .int .i64 (a).2.1, .int .i64 (a).2.2.1, .int .i64 (a).2.2.2.1, .int .i64 (a).2.2.2.2.1, .int .i64 (a).2.2.2.2.2], .agg #[.int .i64 (b).1, .int .i64 (b).2.1, .int .i64 (b).2.2.1, .int .i64 (b).2.2.2.1, .int .i64 (b).2.2.2.2.1, .int .i64 (b).2.2.2.2.2]] w fun e w' => e = .returned (.bool false) ∧ Below w.heap.size w w' :=
  (less_both a b w).mono fun e w' h1 => by
    rcases h1 with ⟨⟨h2, _⟩ | ⟨_, h2⟩, h3⟩
    · exact absurd h2 h
    · exact ⟨h2, by rw [h3]; exact ((Below.refl _ _).alloc (Nat.le_refl _) _).alloc (by simp) _⟩

set_option maxRecDepth 100000 in
set_option maxHeartbeats 8000000 in
theorem specSectors_t (x : DSky) (ao3 : Option Addr) (cap3 : Nat) (ao4 : Option Addr) (cap4 : Nat) (ao5 : Option Addr) (cap5 : Nat) (ao6 : Option Addr) (cap6 : Nat) (w : World)
    (h : SkyAt w x ao3 cap3 ao4 cap4 ao5 cap5 ao6 cap6) (hn : x.2.2.2.2.2.1.length ≤ 6) :
    Calls Tryd.prog 33 #[.agg (skyCells x ao3 cap3 ao4 cap4 ao5 cap5 ao6 cap6)] w fun e w' => ∃ b : Bool, e = .returned (.bool b) ∧ (b = true ↔ SectorsOk x.1 x.2.1 x.2.2.1 x.2.2.2.2.2.1) ∧ Below w.heap.size w w' := by
  obtain ⟨W, H, L, ps, aw, ss, rs⟩ := x
  have h5 := h.p5
  clear h
  simp only [skyCells] at *
  go_enter Tryd.func33, Tryd.ntmps33
  go_wp2
  go_loopw [3] (fun i wr => ∃ k : Nat, k ≤ ss.length ∧ i = .int .i64 k ∧ Hid (∀ j h, j < k → SectorOk W H L ss j h) ∧ Below (w.heap.size + 1) (w.alloc (.cells #[.int .i64 W, .int .i64 H, .int .i64 L, .slice ao3 ps.length cap3, .slice ao4 aw.length cap4, .slice ao5 ss.length cap5, .slice ao6 rs.length cap6] 38)) wr) (fun i _ => ss.length - (intOf i).toNat)
  case atStart => exact ⟨0, Nat.zero_le _, rfl, fun j _ hj => by omega, Below.refl _ _⟩
  case round =>
    obtain ⟨k, hk, rfl, hall, hbel⟩ := hrel
    have hB := box_below hbel
    have x0 := box_cell hbel 0
    have x1 := box_cell hbel 1
    have x2 := box_cell hbel 2
    have x3 := box_cell hbel 3
    have x4 := box_cell hbel 4
    have x5 := box_cell hbel 5
    have x6 := box_cell hbel 6
    have hsz : w.heap.size < wr.heap.size := by have := hbel.size; simp at this; omega
    simp at x0 x1 x2 x3 x4 x5 x6
    by_cases hlt : k < ss.length
    · have hk1 : k - 1 < ss.length := by omega
      obtain ⟨b, off, ao1, cap1, rfl, hok, c0, c1, q0, p1⟩ := elem_SkySector h5 hlt
      have d0 := (hB.cell (p := ⟨b, off + k * 2, none⟩) hok).trans c0
      have d1 := (hB.cell (p := ⟨b, off + k * 2 + 1, none⟩) hok).trans c1
      have hcm : (ss[k]'hlt).2.length ≤ 9223372036854775807 := Nat.le_trans p1.1 p1.2.1
      by_cases hname : NameOk (ss[k]'hlt).1
      · by_cases hk0 : 0 < k
        · obtain ⟨b', off', ao1', cap1', hbo, hok', g0, _⟩ := elem_SkySector h5 hk1
          cases hbo
          have e0 := (hB.cell (p := ⟨b, off + (k - 1) * 2, none⟩) hok).trans g0
          have hd0 : decide ((0 : Int) < (k : Int)) = true := by simp; omega
          have hbw : b < wr.heap.size := Nat.lt_of_lt_of_le hok hB.size
          have hkI : (k : Int) - 1 < (ss.length : Int) := by omega
          have hkN : ((k : Int) - 1).toNat = k - 1 := by omega
          clear g0
          by_cases hasc : SLess (ss[k - 1]'hk1).1 (ss[k]'hlt).1
          · have hlb : Op.bytesLess (ss[k - 1]'hk1).1.toList (ss[k]'hlt).1.toList = true := hasc
            have hasc : ∀ h0 : 0 < k, SLess (ss[k - 1]'hk1).1 (ss[k]'hlt).1 := fun _ => hasc
            by_cases hC : InR ((ss[k]'hlt).2.length : Int) 1 4
            · go_wp2
              go_quiet ((first | (go_at_call 55; exact Calls.quiet_of_same (nameOk_yes _ _ q0 hname)) | (go_at_call 30; exact Calls.quiet_of_same (in_yes _ _ _ _ (by assumption))) | (go_at_call 30; exact Calls.quiet_of_same (in_no _ _ _ _ (by assumption)))))
              have hc4 : (ss[k]'hlt).2.length ≤ 4 := by have := hC.2; omega
              have hc1 : 1 ≤ (ss[k]'hlt).2.length := by have := hC.1; omega
              have HNB : Hid (¬ BlocksOk W H L (ss[k]'hlt).2 → ¬ SectorsOk W H L ss) := fun hn h => hn (h.2 k hlt).2.2
              have HYB : Hid (BlocksOk W H L (ss[k]'hlt).2 → SectorOk W H L ss k hlt) := fun hb => ⟨hname, hasc, hb⟩
              have HALL : Hid (∀ j h, j < k → SectorOk W H L ss j h) := hall
              clear hname hC hall hasc c0 c1 q0
              generalize hcg : (ss[k]'hlt).2 = bs at *
              clear hcg
              go_wp2
              obtain ⟨wo, hwo⟩ : ∃ x, x = wr := ⟨wr, rfl⟩
              subst hwo
              go_loopw [5] (fun j w2 => ∃ m : Nat, m ≤ bs.length ∧ j = .int .i64 m ∧ Hid (BlocksPre W H L bs m) ∧ Below (wo.heap.size + 1) (wo.alloc (.cells #[.string (ss[k]'hlt).1, .slice ao1 bs.length cap1] 74)) w2) (fun j _ => bs.length - (intOf j).toNat)
              case atStart => exact ⟨0, Nat.zero_le _, rfl, fun t _ ht => by omega, below_drewN (Below.refl _ _) _⟩
              case round =>
                obtain ⟨m, hm, rfl, hpre, hb2⟩ := hrel
                by_cases hmc : m < bs.length
                · obtain ⟨b1, off1, rfl, hok1, e0, e1, e2, e3, e4, e5, _⟩ := elem_SkyBlock p1 hmc
                  have hB2 := box_below hb2
                  have hBB : Below w.heap.size w wr := hB.trans (hB2.mono hB.size)
                  have y1 := box_cell hb2 1
                  simp at y1
                  have f0 := (hBB.cell (p := ⟨b1, off1 + m * 6, none⟩) hok1).trans e0
                  have f1 := (hBB.cell (p := ⟨b1, off1 + m * 6 + 1, none⟩) hok1).trans e1
                  have f2 := (hBB.cell (p := ⟨b1, off1 + m * 6 + 2, none⟩) hok1).trans e2
                  have f3 := (hBB.cell (p := ⟨b1, off1 + m * 6 + 3, none⟩) hok1).trans e3
                  have f4 := (hBB.cell (p := ⟨b1, off1 + m * 6 + 4, none⟩) hok1).trans e4
                  have f5 := (hBB.cell (p := ⟨b1, off1 + m * 6 + 5, none⟩) hok1).trans e5
                  have hxs : ∀ i, wr.cell? ⟨w.heap.size, i, none⟩ = wo.cell? ⟨w.heap.size, i, none⟩ := fun i => hB2.cell (p := ⟨w.heap.size, i, none⟩) hsz
                  have z0 := (hxs 0).trans x0
                  have z1 := (hxs 1).trans x1
                  have z2 := (hxs 2).trans x2
                  have z3 := (hxs 3).trans x3
                  have z4 := (hxs 4).trans x4
                  have z5 := (hxs 5).trans x5
                  have z6 := (hxs 6).trans x6
                  have hmI : (m : Int) < (bs.length : Int) := by omega
                  have hm0 : (0 : Int) ≤ (m : Int) := by omega
                  clear hxs e0 e1 e2 e3 e4 e5 x0 x1 x2 x3 x4 x5 x6 d0 d1
                  by_cases hbk : BlockOk W H L (bs[m]'hmc)
                  · by_cases hm1 : 0 < m
                    · have hmp : m - 1 < bs.length := by omega
                      obtain ⟨b2, off2, hbo, _, e0, e1, e2, e3, e4, e5, _⟩ := elem_SkyBlock p1 hmp
                      cases hbo
                      have p0 := (hBB.cell (p := ⟨b1, off1 + (m - 1) * 6, none⟩) hok1).trans e0
                      have p1 := (hBB.cell (p := ⟨b1, off1 + (m - 1) * 6 + 1, none⟩) hok1).trans e1
                      have p2 := (hBB.cell (p := ⟨b1, off1 + (m - 1) * 6 + 2, none⟩) hok1).trans e2
                      have p3 := (hBB.cell (p := ⟨b1, off1 + (m - 1) * 6 + 3, none⟩) hok1).trans e3
                      have p4 := (hBB.cell (p := ⟨b1, off1 + (m - 1) * 6 + 4, none⟩) hok1).trans e4
                      have p5 := (hBB.cell (p := ⟨b1, off1 + (m - 1) * 6 + 5, none⟩) hok1).trans e5
                      clear e0 e1 e2 e3 e4 e5
                      have hd2 : decide ((0 : Int) < (m : Int)) = true := by simp; omega
                      have hmJ : (m : Int) - 1 < (bs.length : Int) := by omega
                      have hmK : (1 : Int) ≤ (m : Int) := by omega
                      have hmN : ((m : Int) - 1).toNat = m - 1 := by omega
                      have hmW : IntKind.i64.wrap ((m : Int) - 1) = (m : Int) - 1 := by rw [IntKind.wrap_i64]; all_goals omega
                      have g0 := cell_regrown f0
                      have g1 := cell_regrown f1
                      have g2 := cell_regrown f2
                      have g3 := cell_regrown f3
                      have g4 := cell_regrown f4
                      have g5 := cell_regrown f5
                      have k0 := cell_regrown z0
                      have k1 := cell_regrown z1
                      have k2 := cell_regrown z2
                      have k3 := cell_regrown z3
                      have k4 := cell_regrown z4
                      have k5 := cell_regrown z5
                      have k6 := cell_regrown z6
                      have l1 := cell_regrown y1
                      clear f0 f1 f2 f3 f4 f5 z0 z1 z2 z3 z4 z5 z6
                      have r0 := cell_regrown p0
                      have r1 := cell_regrown p1
                      have r2 := cell_regrown p2
                      have r3 := cell_regrown p3
                      have r4 := cell_regrown p4
                      have r5 := cell_regrown p5
                      clear p0 p1 p2 p3 p4 p5
                      by_cases hls : BlockLess (bs[m - 1]'hmp) (bs[m]'hmc)
                      · have hX : True := trivial
                        have HM : Hid (BlocksPre W H L bs (m + 1)) := fun t ht h1 => by
                          by_cases e : t = m
                          · subst e; exact ⟨hbk, fun _ => hls⟩
                          · exact hpre.out t ht (by omega)
                        have cB : ∀ d os, Calls Tryd.prog 57 #[.agg #[.int .i64 W, .int .i64 H, .int .i64 L, .slice ao3 ps.length cap3, .slice ao4 aw.length cap4, .slice (some ⟨b, off, none⟩) ss.length cap5, .slice ao6 rs.length cap6], .agg #[.int .i64 (bs[m]'hmc).1, .int .i64 (bs[m]'hmc).2.1, .int .i64 (bs[m]'hmc).2.2.1, .int .i64 (bs[m]'hmc).2.2.2.1, .int .i64 (bs[m]'hmc).2.2.2.2.1, .int .i64 (bs[m]'hmc).2.2.2.2.2]] (grow (redrawn wr d) os) fun e w'' => e = .returned (.bool true) ∧ ∃ p : Regrown, w'' = grow (redrawn wr p.d) p.os := fun d os => Calls.regrown_of (blockOk_yes (W, H, L, ps, aw, ss, rs) ao3 cap3 ao4 cap4 (some ⟨b, off, none⟩) cap5 ao6 cap6 (bs[m]'hmc) _ hbk)
                        have cL : ∀ d os, Calls Tryd.prog 58 #[.agg #[.int .i64 (bs[m - 1]'hmp).1, .int .i64 (bs[m - 1]'hmp).2.1, .int .i64 (bs[m - 1]'hmp).2.2.1, .int .i64 (bs[m - 1]'hmp).2.2.2.1, .int .i64 (bs[m - 1]'hmp).2.2.2.2.1, .int .i64 (bs[m - 1]'hmp).2.2.2.2.2], .agg #[.int .i64 (bs[m]'hmc).1, .int .i64 (bs[m]'hmc).2.1, .int .i64 (bs[m]'hmc).2.2.1, .int .i64 (bs[m]'hmc).2.2.2.1, .int .i64 (bs[m]'hmc).2.2.2.2.1, .int .i64 (bs[m]'hmc).2.2.2.2.2]] (grow (redrawn wr d) os) fun e w'' => e = .returned (.bool true) ∧ ∃ p : Regrown, w'' = grow (redrawn wr p.d) p.os := fun d os => Calls.regrown_of (less_yes (bs[m - 1]'hmp) (bs[m]'hmc) _ hls)
                        clear hpre hbk hls
                        go_wp2
                        refine wp_region_wq (by kernel_rfl) (by kernel_rfl) ?_
                        refine WQ.want (by kernel_rfl) (fun K hK => ?_)
                        go_simp
                        refine hK _ ?_
                        clear hK K
                        refine WQ.want (by kernel_rfl) (fun K hK => ?_)
                        go_simp
                        refine hK _ ?_
                        clear hK K
                        refine WQ.want (by kernel_rfl) (fun K hK => ?_)
                        go_simp
                        refine hK _ ?_
                        clear hK K
                        refine WQ.want (by kernel_rfl) (fun K hK => ?_)
                        go_simp
                        refine hK _ ?_
                        clear hK K
                        refine WQ.want (by kernel_rfl) (fun K hK => ?_)
                        go_simp
                        refine hK _ ?_
                        clear hK K
                        refine WQ.want (by kernel_rfl) (fun K hK => ?_)
                        go_simp
                        refine hK _ ?_
                        clear hK K
                        refine WQ.want (by kernel_rfl) (fun K hK => ?_)
                        go_simp
                        refine ⟨_, fun _ => cB _ _, hK _ ?_⟩
                        clear hK K
                        clear cB
                        refine WQ.want (by kernel_rfl) (fun K hK => ?_)
                        go_simp
                        refine hK _ ?_
                        clear hK K
                        refine WQ.want (by kernel_rfl) (fun K hK => ?_)
                        go_simp
                        refine hK _ ?_
                        clear hK K
                        refine WQ.want (by kernel_rfl) (fun K hK => ?_)
                        go_simp
                        refine hK _ ?_
                        clear hK K
                        refine WQ.want (by kernel_rfl) (fun K hK => ?_)
                        go_simp
                        refine hK _ ?_
                        clear hK K
                        refine WQ.want (by kernel_rfl) (fun K hK => ?_)
                        go_simp
                        refine hK _ ?_
                        clear hK K
                        refine WQ.want (by kernel_rfl) (fun K hK => ?_)
                        go_simp
                        refine hK _ ?_
                        clear hK K
                        refine WQ.want (by kernel_rfl) (fun K hK => ?_)
                        go_simp
                        refine hK _ ?_
                        clear hK K
                        refine WQ.want (by kernel_rfl) (fun K hK => ?_)
                        go_simp
                        refine hK _ ?_
                        clear hK K
                        refine WQ.want (by kernel_rfl) (fun K hK => ?_)
                        go_simp
                        refine hK _ ?_
                        clear hK K
                        refine WQ.want (by kernel_rfl) (fun K hK => ?_)
                        go_simp
                        refine hK _ ?_
                        clear hK K
                        refine WQ.want (by kernel_rfl) (fun K hK => ?_)
                        go_simp
                        refine hK _ ?_
                        clear hK K
                        refine WQ.want (by kernel_rfl) (fun K hK => ?_)
                        go_simp
                        refine hK _ ?_
                        clear hK K
                        refine WQ.want (by kernel_rfl) (fun K hK => ?_)
                        go_simp
                        refine hK _ ?_
                        clear hK K
                        refine WQ.want (by kernel_rfl) (fun K hK => ?_)
                        go_simp
                        refine hK _ ?_
                        clear hK K
                        refine WQ.want (by kernel_rfl) (fun K hK => ?_)
                        go_simp
                        refine hK _ ?_
                        clear hK K
                        refine WQ.want (by kernel_rfl) (fun K hK => ?_)
                        go_simp
                        refine hK _ ?_
                        clear hK K
                        refine WQ.want (by kernel_rfl) (fun K hK => ?_)
                        go_simp
                        refine ⟨_, fun _ => cL _ _, hK _ ?_⟩
                        clear hK K
                        clear cL r0 r1 r2 r3 r4 r5
                        clear g0 g1 g2 g3 g4 g5 k0 k1 k2 k3 k4 k5 k6 l1
                        refine WQ.want (by kernel_rfl) (fun K hK => ?_)
                        go_simp
                        refine hK _ ?_
                        clear hK K
                        refine WQ.want (by kernel_rfl) (fun K hK => ?_)
                        go_simp
                        refine hK _ ?_
                        clear hK K
                        refine WQ.want (by kernel_rfl) (fun K hK => ?_)
                        go_simp
                        refine hK _ ?_
                        clear hK K
                        refine WQ.nil ?_
                        intro _ hw'
                        obtain ⟨⟨dq, osq⟩, hw''⟩ := hw'
                        subst hw''
                        have hb3 := hb2.trans ((below_regrown wr dq osq).mono (by have := hb2.size; simpa using this))
                        clear hb2
                        generalize grow (redrawn wr dq) osq = w3 at hb3 ⊢
                        go_wp2
                        go_roundw
                        case rel => exact ⟨m + 1, by omega, by go_num, HM, hb3⟩
                        case measure => simp [intOf]; omega
                      · have hX : True := trivial
                        have HF : Hid (¬ SectorsOk W H L ss) := HNB.out (fun h => hls ((h.2.2 m hmc).2 hm1))
                        have cB : ∀ d os, Calls Tryd.prog 57 #[.agg #[.int .i64 W, .int .i64 H, .int .i64 L, .slice ao3 ps.length cap3, .slice ao4 aw.length cap4, .slice (some ⟨b, off, none⟩) ss.length cap5, .slice ao6 rs.length cap6], .agg #[.int .i64 (bs[m]'hmc).1, .int .i64 (bs[m]'hmc).2.1, .int .i64 (bs[m]'hmc).2.2.1, .int .i64 (bs[m]'hmc).2.2.2.1, .int .i64 (bs[m]'hmc).2.2.2.2.1, .int .i64 (bs[m]'hmc).2.2.2.2.2]] (grow (redrawn wr d) os) fun e w'' => e = .returned (.bool true) ∧ ∃ p : Regrown, w'' = grow (redrawn wr p.d) p.os := fun d os => Calls.regrown_of (blockOk_yes (W, H, L, ps, aw, ss, rs) ao3 cap3 ao4 cap4 (some ⟨b, off, none⟩) cap5 ao6 cap6 (bs[m]'hmc) _ hbk)
                        have cL : ∀ d os, Calls Tryd.prog 58 #[.agg #[.int .i64 (bs[m - 1]'hmp).1, .int .i64 (bs[m - 1]'hmp).2.1, .int .i64 (bs[m - 1]'hmp).2.2.1, .int .i64 (bs[m - 1]'hmp).2.2.2.1, .int .i64 (bs[m - 1]'hmp).2.2.2.2.1, .int .i64 (bs[m - 1]'hmp).2.2.2.2.2], .agg #[.int .i64 (bs[m]'hmc).1, .int .i64 (bs[m]'hmc).2.1, .int .i64 (bs[m]'hmc).2.2.1, .int .i64 (bs[m]'hmc).2.2.2.1, .int .i64 (bs[m]'hmc).2.2.2.2.1, .int .i64 (bs[m]'hmc).2.2.2.2.2]] (grow (redrawn wr d) os) fun e w'' => e = .returned (.bool false) ∧ ∃ p : Regrown, w'' = grow (redrawn wr p.d) p.os := fun d os => Calls.regrown_of (less_no (bs[m - 1]'hmp) (bs[m]'hmc) _ hls)
                        clear hpre hbk hls
                        go_wp2
                        refine wp_region_wq (by kernel_rfl) (by kernel_rfl) ?_
                        refine WQ.want (by kernel_rfl) (fun K hK => ?_)
                        go_simp
                        refine hK _ ?_
                        clear hK K
                        refine WQ.want (by kernel_rfl) (fun K hK => ?_)
                        go_simp
                        refine hK _ ?_
                        clear hK K
                        refine WQ.want (by kernel_rfl) (fun K hK => ?_)
                        go_simp
                        refine hK _ ?_
                        clear hK K
                        refine WQ.want (by kernel_rfl) (fun K hK => ?_)
                        go_simp
                        refine hK _ ?_
                        clear hK K
                        refine WQ.want (by kernel_rfl) (fun K hK => ?_)
                        go_simp
                        refine hK _ ?_
                        clear hK K
                        refine WQ.want (by kernel_rfl) (fun K hK => ?_)
                        go_simp
                        refine hK _ ?_
                        clear hK K
                        refine WQ.want (by kernel_rfl) (fun K hK => ?_)
                        go_simp
                        refine ⟨_, fun _ => cB _ _, hK _ ?_⟩
                        clear hK K
                        clear cB
                        refine WQ.want (by kernel_rfl) (fun K hK => ?_)
                        go_simp
                        refine hK _ ?_
                        clear hK K
                        refine WQ.want (by kernel_rfl) (fun K hK => ?_)
                        go_simp
                        refine hK _ ?_
                        clear hK K
                        refine WQ.want (by kernel_rfl) (fun K hK => ?_)
                        go_simp
                        refine hK _ ?_
                        clear hK K
                        refine WQ.want (by kernel_rfl) (fun K hK => ?_)
                        go_simp
                        refine hK _ ?_
                        clear hK K
                        refine WQ.want (by kernel_rfl) (fun K hK => ?_)
                        go_simp
                        refine hK _ ?_
                        clear hK K
                        refine WQ.want (by kernel_rfl) (fun K hK => ?_)
                        go_simp
                        refine hK _ ?_
                        clear hK K
                        refine WQ.want (by kernel_rfl) (fun K hK => ?_)
                        go_simp
                        refine hK _ ?_
                        clear hK K
                        refine WQ.want (by kernel_rfl) (fun K hK => ?_)
                        go_simp
                        refine hK _ ?_
                        clear hK K
                        refine WQ.want (by kernel_rfl) (fun K hK => ?_)
                        go_simp
                        refine hK _ ?_
                        clear hK K
                        refine WQ.want (by kernel_rfl) (fun K hK => ?_)
                        go_simp
                        refine hK _ ?_
                        clear hK K
                        refine WQ.want (by kernel_rfl) (fun K hK => ?_)
                        go_simp
                        refine hK _ ?_
                        clear hK K
                        refine WQ.want (by kernel_rfl) (fun K hK => ?_)
                        go_simp
                        refine hK _ ?_
                        clear hK K
                        refine WQ.want (by kernel_rfl) (fun K hK => ?_)
                        go_simp
                        refine hK _ ?_
                        clear hK K
                        refine WQ.want (by kernel_rfl) (fun K hK => ?_)
                        go_simp
                        refine hK _ ?_
                        clear hK K
                        refine WQ.want (by kernel_rfl) (fun K hK => ?_)
                        go_simp
                        refine hK _ ?_
                        clear hK K
                        refine WQ.want (by kernel_rfl) (fun K hK => ?_)
                        go_simp
                        refine hK _ ?_
                        clear hK K
                        refine WQ.want (by kernel_rfl) (fun K hK => ?_)
                        go_simp
                        refine ⟨_, fun _ => cL _ _, hK _ ?_⟩
                        clear hK K
                        clear cL r0 r1 r2 r3 r4 r5
                        clear g0 g1 g2 g3 g4 g5 k0 k1 k2 k3 k4 k5 k6 l1
                        refine WQ.want (by kernel_rfl) (fun K hK => ?_)
                        go_simp
                        refine hK _ ?_
                        clear hK K
                        refine WQ.want (by kernel_rfl) (fun K hK => ?_)
                        go_simp
                        refine hK _ ?_
                        clear hK K
                        refine WQ.want (by kernel_rfl) (fun K hK => ?_)
                        go_simp
                        refine hK _ ?_
                        clear hK K
                        refine WQ.nil ?_
                        intro _ hw'
                        obtain ⟨⟨dq, osq⟩, hw''⟩ := hw'
                        subst hw''
                        have hb3 := hb2.trans ((below_regrown wr dq osq).mono (by have := hb2.size; simpa using this))
                        clear hb2
                        generalize grow (redrawn wr dq) osq = w3 at hb3 ⊢
                        go_wp2
                        go_ret
                        exact ⟨false, rfl, by simp [HF.out], hB.trans ((box_below hb3).mono hB.size)⟩
                    · have hX : True := trivial
                      have hd2 : decide ((0 : Int) < (m : Int)) = false := by simp; omega
                      have HM : Hid (BlocksPre W H L bs (m + 1)) := fun t ht h1 => by
                        by_cases e : t = m
                        · subst e; exact ⟨hbk, fun h0 => absurd h0 hm1⟩
                        · exact hpre.out t ht (by omega)
                      have g0 := cell_regrown f0
                      have g1 := cell_regrown f1
                      have g2 := cell_regrown f2
                      have g3 := cell_regrown f3
                      have g4 := cell_regrown f4
                      have g5 := cell_regrown f5
                      have k0 := cell_regrown z0
                      have k1 := cell_regrown z1
                      have k2 := cell_regrown z2
                      have k3 := cell_regrown z3
                      have k4 := cell_regrown z4
                      have k5 := cell_regrown z5
                      have k6 := cell_regrown z6
                      have l1 := cell_regrown y1
                      clear f0 f1 f2 f3 f4 f5 z0 z1 z2 z3 z4 z5 z6
                      have cB : ∀ d os, Calls Tryd.prog 57 #[.agg #[.int .i64 W, .int .i64 H, .int .i64 L, .slice ao3 ps.length cap3, .slice ao4 aw.length cap4, .slice (some ⟨b, off, none⟩) ss.length cap5, .slice ao6 rs.length cap6], .agg #[.int .i64 (bs[m]'hmc).1, .int .i64 (bs[m]'hmc).2.1, .int .i64 (bs[m]'hmc).2.2.1, .int .i64 (bs[m]'hmc).2.2.2.1, .int .i64 (bs[m]'hmc).2.2.2.2.1, .int .i64 (bs[m]'hmc).2.2.2.2.2]] (grow (redrawn wr d) os) fun e w'' => e = .returned (.bool true) ∧ ∃ p : Regrown, w'' = grow (redrawn wr p.d) p.os := fun d os => Calls.regrown_of (blockOk_yes (W, H, L, ps, aw, ss, rs) ao3 cap3 ao4 cap4 (some ⟨b, off, none⟩) cap5 ao6 cap6 (bs[m]'hmc) _ hbk)
                      clear hpre hbk
                      go_wp2
                      refine wp_region_wq (by kernel_rfl) (by kernel_rfl) ?_
                      refine WQ.want (by kernel_rfl) (fun K hK => ?_)
                      go_simp
                      refine hK _ ?_
                      clear hK K
                      refine WQ.want (by kernel_rfl) (fun K hK => ?_)
                      go_simp
                      refine hK _ ?_
                      clear hK K
                      refine WQ.want (by kernel_rfl) (fun K hK => ?_)
                      go_simp
                      refine hK _ ?_
                      clear hK K
                      refine WQ.want (by kernel_rfl) (fun K hK => ?_)
                      go_simp
                      refine hK _ ?_
                      clear hK K
                      refine WQ.want (by kernel_rfl) (fun K hK => ?_)
                      go_simp
                      refine hK _ ?_
                      clear hK K
                      refine WQ.want (by kernel_rfl) (fun K hK => ?_)
                      go_simp
                      refine hK _ ?_
                      clear hK K
                      refine WQ.want (by kernel_rfl) (fun K hK => ?_)
                      go_simp
                      refine ⟨_, fun _ => cB _ _, hK _ ?_⟩
                      clear hK K
                      clear cB
                      clear g0 g1 g2 g3 g4 g5 k0 k1 k2 k3 k4 k5 k6 l1
                      refine WQ.want (by kernel_rfl) (fun K hK => ?_)
                      go_simp
                      refine hK _ ?_
                      clear hK K
                      refine WQ.want (by kernel_rfl) (fun K hK => ?_)
                      go_simp
                      refine hK _ ?_
                      clear hK K
                      refine WQ.want (by kernel_rfl) (fun K hK => ?_)
                      go_simp
                      refine hK _ ?_
                      clear hK K
                      refine WQ.want (by kernel_rfl) (fun K hK => ?_)
                      go_simp
                      refine hK _ ?_
                      clear hK K
                      refine WQ.want (by kernel_rfl) (fun K hK => ?_)
                      go_simp
                      refine hK _ ?_
                      clear hK K
                      refine WQ.skip (by kernel_rfl) ?_
                      refine WQ.skip (by kernel_rfl) ?_
                      refine WQ.skip (by kernel_rfl) ?_
                      refine WQ.skip (by kernel_rfl) ?_
                      refine WQ.skip (by kernel_rfl) ?_
                      refine WQ.skip (by kernel_rfl) ?_
                      refine WQ.skip (by kernel_rfl) ?_
                      refine WQ.skip (by kernel_rfl) ?_
                      refine WQ.skip (by kernel_rfl) ?_
                      refine WQ.skip (by kernel_rfl) ?_
                      refine WQ.skip (by kernel_rfl) ?_
                      refine WQ.skip (by kernel_rfl) ?_
                      refine WQ.skip (by kernel_rfl) ?_
                      refine WQ.want (by kernel_rfl) (fun K hK => ?_)
                      go_simp
                      refine hK _ ?_
                      clear hK K
                      refine WQ.want (by kernel_rfl) (fun K hK => ?_)
                      go_simp
                      refine hK _ ?_
                      clear hK K
                      refine WQ.nil ?_
                      intro _ hw'
                      obtain ⟨⟨dq, osq⟩, hw''⟩ := hw'
                      subst hw''
                      have hb3 := hb2.trans ((below_regrown wr dq osq).mono (by have := hb2.size; simpa using this))
                      clear hb2
                      generalize grow (redrawn wr dq) osq = w3 at hb3 ⊢
                      go_wp2
                      go_roundw
                      case rel => exact ⟨m + 1, by omega, by go_num, HM, hb3⟩
                      case measure => simp [intOf]; omega
                  · have hX : True := trivial
                    have HF : Hid (¬ SectorsOk W H L ss) := HNB.out (fun h => hbk (h.2.2 m hmc).1)
                    have g0 := cell_regrown f0
                    have g1 := cell_regrown f1
                    have g2 := cell_regrown f2
                    have g3 := cell_regrown f3
                    have g4 := cell_regrown f4
                    have g5 := cell_regrown f5
                    have k0 := cell_regrown z0
                    have k1 := cell_regrown z1
                    have k2 := cell_regrown z2
                    have k3 := cell_regrown z3
                    have k4 := cell_regrown z4
                    have k5 := cell_regrown z5
                    have k6 := cell_regrown z6
                    have l1 := cell_regrown y1
                    clear f0 f1 f2 f3 f4 f5 z0 z1 z2 z3 z4 z5 z6
                    have cB : ∀ d os, Calls Tryd.prog 57 #[.agg #[.int .i64 W, .int .i64 H, .int .i64 L, .slice ao3 ps.length cap3, .slice ao4 aw.length cap4, .slice (some ⟨b, off, none⟩) ss.length cap5, .slice ao6 rs.length cap6], .agg #[.int .i64 (bs[m]'hmc).1, .int .i64 (bs[m]'hmc).2.1, .int .i64 (bs[m]'hmc).2.2.1, .int .i64 (bs[m]'hmc).2.2.2.1, .int .i64 (bs[m]'hmc).2.2.2.2.1, .int .i64 (bs[m]'hmc).2.2.2.2.2]] (grow (redrawn wr d) os) fun e w'' => e = .returned (.bool false) ∧ ∃ p : Regrown, w'' = grow (redrawn wr p.d) p.os := fun d os => Calls.regrown_of (blockOk_no (W, H, L, ps, aw, ss, rs) ao3 cap3 ao4 cap4 (some ⟨b, off, none⟩) cap5 ao6 cap6 (bs[m]'hmc) _ hbk)
                    clear hpre hbk
                    go_wp2
                    refine wp_region_wq (by kernel_rfl) (by kernel_rfl) ?_
                    refine WQ.want (by kernel_rfl) (fun K hK => ?_)
                    go_simp
                    refine hK _ ?_
                    clear hK K
                    refine WQ.want (by kernel_rfl) (fun K hK => ?_)
                    go_simp
                    refine hK _ ?_
                    clear hK K
                    refine WQ.want (by kernel_rfl) (fun K hK => ?_)
                    go_simp
                    refine hK _ ?_
                    clear hK K
                    refine WQ.want (by kernel_rfl) (fun K hK => ?_)
                    go_simp
                    refine hK _ ?_
                    clear hK K
                    refine WQ.want (by kernel_rfl) (fun K hK => ?_)
                    go_simp
                    refine hK _ ?_
                    clear hK K
                    refine WQ.want (by kernel_rfl) (fun K hK => ?_)
                    go_simp
                    refine hK _ ?_
                    clear hK K
                    refine WQ.want (by kernel_rfl) (fun K hK => ?_)
                    go_simp
                    refine ⟨_, fun _ => cB _ _, hK _ ?_⟩
                    clear hK K
                    clear cB
                    clear g0 g1 g2 g3 g4 g5 k0 k1 k2 k3 k4 k5 k6 l1
                    refine WQ.want (by kernel_rfl) (fun K hK => ?_)
                    go_simp
                    refine hK _ ?_
                    clear hK K
                    refine WQ.want (by kernel_rfl) (fun K hK => ?_)
                    go_simp
                    refine hK _ ?_
                    clear hK K
                    refine WQ.skip (by kernel_rfl) ?_
                    refine WQ.skip (by kernel_rfl) ?_
                    refine WQ.skip (by kernel_rfl) ?_
                    refine WQ.skip (by kernel_rfl) ?_
                    refine WQ.skip (by kernel_rfl) ?_
                    refine WQ.skip (by kernel_rfl) ?_
                    refine WQ.skip (by kernel_rfl) ?_
                    refine WQ.skip (by kernel_rfl) ?_
                    refine WQ.skip (by kernel_rfl) ?_
                    refine WQ.skip (by kernel_rfl) ?_
                    refine WQ.skip (by kernel_rfl) ?_
                    refine WQ.skip (by kernel_rfl) ?_
                    refine WQ.skip (by kernel_rfl) ?_
                    refine WQ.skip (by kernel_rfl) ?_
                    refine WQ.skip (by kernel_rfl) ?_
                    refine WQ.skip (by kernel_rfl) ?_
                    refine WQ.skip (by kernel_rfl) ?_
                    refine WQ.want (by kernel_rfl) (fun K hK => ?_)
                    go_simp
                    refine hK _ ?_
                    clear hK K
                    refine WQ.nil ?_
                    intro _ hw'
                    obtain ⟨⟨dq, osq⟩, hw''⟩ := hw'
                    subst hw''
                    have hb3 := hb2.trans ((below_regrown wr dq osq).mono (by have := hb2.size; simpa using this))
                    clear hb2
                    generalize grow (redrawn wr dq) osq = w3 at hb3 ⊢
                    go_wp2
                    go_ret
                    exact ⟨false, rfl, by simp [HF.out], hB.trans ((box_below hb3).mono hB.size)⟩
                · have HP : Hid (SectorOk W H L ss k hlt) := HYB.out ⟨hc1, hc4, fun t ht => hpre.out t ht (by omega)⟩
                  have HA : Hid (∀ j h, j < k + 1 → SectorOk W H L ss j h) := fun j h hj => by
                    by_cases e : j = k
                    · subst e; exact HP.out
                    · exact HALL.out j h (by omega)
                  have y1 := box_cell hb2 1
                  simp at y1
                  have hb4 := hbel.trans ((box_below hb2).mono (by have := hbel.size; simpa using this))
                  clear hpre HP HALL HYB HNB
                  go_wp2
                  go_roundw
                  case rel => exact ⟨k + 1, by omega, by go_num, HA, hb4⟩
                  case measure => simp [intOf]; omega
            · have HN : Hid (¬ SectorsOk W H L ss) := fun h => hC ⟨by have := (h.2 k hlt).2.2.1; omega, by have := (h.2 k hlt).2.2.2.1; omega⟩
              clear hall
              go_wp2
              go_quiet ((first | (go_at_call 55; exact Calls.quiet_of_same (nameOk_yes _ _ q0 hname)) | (go_at_call 30; exact Calls.quiet_of_same (in_yes _ _ _ _ (by assumption))) | (go_at_call 30; exact Calls.quiet_of_same (in_no _ _ _ _ (by assumption)))))
              go_wp2
              go_ret
              exact ⟨false, rfl, by simp [HN.out], below_drewN (hB.alloc hB.size _) _⟩
          · have hlb : Op.bytesLess (ss[k - 1]'hk1).1.toList (ss[k]'hlt).1.toList = false := by unfold SLess at hasc; simpa using hasc
            have HN : Hid (¬ SectorsOk W H L ss) := fun h => hasc ((h.2 k hlt).2.1 hk0)
            clear hall hasc
            go_wp2
            go_quiet ((first | (go_at_call 55; exact Calls.quiet_of_same (nameOk_yes _ _ q0 hname)) | (go_at_call 30; exact Calls.quiet_of_same (in_yes _ _ _ _ (by assumption))) | (go_at_call 30; exact Calls.quiet_of_same (in_no _ _ _ _ (by assumption)))))
            go_wp2
            go_ret
            exact ⟨false, rfl, by simp [HN.out], below_drewN (hB.alloc hB.size _) _⟩
        · have hd0 : decide ((0 : Int) < (k : Int)) = false := by simp; omega
          have hasc : ∀ h0 : 0 < k, SLess (ss[k - 1]'hk1).1 (ss[k]'hlt).1 := fun h0 => absurd h0 hk0
          by_cases hC : InR ((ss[k]'hlt).2.length : Int) 1 4
          · go_wp2
            go_quiet ((first | (go_at_call 55; exact Calls.quiet_of_same (nameOk_yes _ _ q0 hname)) | (go_at_call 30; exact Calls.quiet_of_same (in_yes _ _ _ _ (by assumption))) | (go_at_call 30; exact Calls.quiet_of_same (in_no _ _ _ _ (by assumption)))))
            have hc4 : (ss[k]'hlt).2.length ≤ 4 := by have := hC.2; omega
            have hc1 : 1 ≤ (ss[k]'hlt).2.length := by have := hC.1; omega
            have HNB : Hid (¬ BlocksOk W H L (ss[k]'hlt).2 → ¬ SectorsOk W H L ss) := fun hn h => hn (h.2 k hlt).2.2
            have HYB : Hid (BlocksOk W H L (ss[k]'hlt).2 → SectorOk W H L ss k hlt) := fun hb => ⟨hname, hasc, hb⟩
            have HALL : Hid (∀ j h, j < k → SectorOk W H L ss j h) := hall
            clear hname hC hall hasc c0 c1 q0
            generalize hcg : (ss[k]'hlt).2 = bs at *
            clear hcg
            go_wp2
            obtain ⟨wo, hwo⟩ : ∃ x, x = wr := ⟨wr, rfl⟩
            subst hwo
            go_loopw [5] (fun j w2 => ∃ m : Nat, m ≤ bs.length ∧ j = .int .i64 m ∧ Hid (BlocksPre W H L bs m) ∧ Below (wo.heap.size + 1) (wo.alloc (.cells #[.string (ss[k]'hlt).1, .slice ao1 bs.length cap1] 74)) w2) (fun j _ => bs.length - (intOf j).toNat)
            case atStart => exact ⟨0, Nat.zero_le _, rfl, fun t _ ht => by omega, below_drewN (Below.refl _ _) _⟩
            case round =>
              obtain ⟨m, hm, rfl, hpre, hb2⟩ := hrel
              by_cases hmc : m < bs.length
              · obtain ⟨b1, off1, rfl, hok1, e0, e1, e2, e3, e4, e5, _⟩ := elem_SkyBlock p1 hmc
                have hB2 := box_below hb2
                have hBB : Below w.heap.size w wr := hB.trans (hB2.mono hB.size)
                have y1 := box_cell hb2 1
                simp at y1
                have f0 := (hBB.cell (p := ⟨b1, off1 + m * 6, none⟩) hok1).trans e0
                have f1 := (hBB.cell (p := ⟨b1, off1 + m * 6 + 1, none⟩) hok1).trans e1
                have f2 := (hBB.cell (p := ⟨b1, off1 + m * 6 + 2, none⟩) hok1).trans e2
                have f3 := (hBB.cell (p := ⟨b1, off1 + m * 6 + 3, none⟩) hok1).trans e3
                have f4 := (hBB.cell (p := ⟨b1, off1 + m * 6 + 4, none⟩) hok1).trans e4
                have f5 := (hBB.cell (p := ⟨b1, off1 + m * 6 + 5, none⟩) hok1).trans e5
                have hxs : ∀ i, wr.cell? ⟨w.heap.size, i, none⟩ = wo.cell? ⟨w.heap.size, i, none⟩ := fun i => hB2.cell (p := ⟨w.heap.size, i, none⟩) hsz
                have z0 := (hxs 0).trans x0
                have z1 := (hxs 1).trans x1
                have z2 := (hxs 2).trans x2
                have z3 := (hxs 3).trans x3
                have z4 := (hxs 4).trans x4
                have z5 := (hxs 5).trans x5
                have z6 := (hxs 6).trans x6
                have hmI : (m : Int) < (bs.length : Int) := by omega
                have hm0 : (0 : Int) ≤ (m : Int) := by omega
                clear hxs e0 e1 e2 e3 e4 e5 x0 x1 x2 x3 x4 x5 x6 d0 d1
                by_cases hbk : BlockOk W H L (bs[m]'hmc)
                · by_cases hm1 : 0 < m
                  · have hmp : m - 1 < bs.length := by omega
                    obtain ⟨b2, off2, hbo, _, e0, e1, e2, e3, e4, e5, _⟩ := elem_SkyBlock p1 hmp
                    cases hbo
                    have p0 := (hBB.cell (p := ⟨b1, off1 + (m - 1) * 6, none⟩) hok1).trans e0
                    have p1 := (hBB.cell (p := ⟨b1, off1 + (m - 1) * 6 + 1, none⟩) hok1).trans e1
                    have p2 := (hBB.cell (p := ⟨b1, off1 + (m - 1) * 6 + 2, none⟩) hok1).trans e2
                    have p3 := (hBB.cell (p := ⟨b1, off1 + (m - 1) * 6 + 3, none⟩) hok1).trans e3
                    have p4 := (hBB.cell (p := ⟨b1, off1 + (m - 1) * 6 + 4, none⟩) hok1).trans e4
                    have p5 := (hBB.cell (p := ⟨b1, off1 + (m - 1) * 6 + 5, none⟩) hok1).trans e5
                    clear e0 e1 e2 e3 e4 e5
                    have hd2 : decide ((0 : Int) < (m : Int)) = true := by simp; omega
                    have hmJ : (m : Int) - 1 < (bs.length : Int) := by omega
                    have hmK : (1 : Int) ≤ (m : Int) := by omega
                    have hmN : ((m : Int) - 1).toNat = m - 1 := by omega
                    have hmW : IntKind.i64.wrap ((m : Int) - 1) = (m : Int) - 1 := by rw [IntKind.wrap_i64]; all_goals omega
                    have g0 := cell_regrown f0
                    have g1 := cell_regrown f1
                    have g2 := cell_regrown f2
                    have g3 := cell_regrown f3
                    have g4 := cell_regrown f4
                    have g5 := cell_regrown f5
                    have k0 := cell_regrown z0
                    have k1 := cell_regrown z1
                    have k2 := cell_regrown z2
                    have k3 := cell_regrown z3
                    have k4 := cell_regrown z4
                    have k5 := cell_regrown z5
                    have k6 := cell_regrown z6
                    have l1 := cell_regrown y1
                    clear f0 f1 f2 f3 f4 f5 z0 z1 z2 z3 z4 z5 z6
                    have r0 := cell_regrown p0
                    have r1 := cell_regrown p1
                    have r2 := cell_regrown p2
                    have r3 := cell_regrown p3
                    have r4 := cell_regrown p4
                    have r5 := cell_regrown p5
                    clear p0 p1 p2 p3 p4 p5
                    by_cases hls : BlockLess (bs[m - 1]'hmp) (bs[m]'hmc)
                    · have hX : True := trivial
                      have HM : Hid (BlocksPre W H L bs (m + 1)) := fun t ht h1 => by
                        by_cases e : t = m
                        · subst e; exact ⟨hbk, fun _ => hls⟩
                        · exact hpre.out t ht (by omega)
                      have cB : ∀ d os, Calls Tryd.prog 57 #[.agg #[.int .i64 W, .int .i64 H, .int .i64 L, .slice ao3 ps.length cap3, .slice ao4 aw.length cap4, .slice (some ⟨b, off, none⟩) ss.length cap5, .slice ao6 rs.length cap6], .agg #[.int .i64 (bs[m]'hmc).1, .int .i64 (bs[m]'hmc).2.1, .int .i64 (bs[m]'hmc).2.2.1, .int .i64 (bs[m]'hmc).2.2.2.1, .int .i64 (bs[m]'hmc).2.2.2.2.1, .int .i64 (bs[m]'hmc).2.2.2.2.2]] (grow (redrawn wr d) os) fun e w'' => e = .returned (.bool true) ∧ ∃ p : Regrown, w'' = grow (redrawn wr p.d) p.os := fun d os => Calls.regrown_of (blockOk_yes (W, H, L, ps, aw, ss, rs) ao3 cap3 ao4 cap4 (some ⟨b, off, none⟩) cap5 ao6 cap6 (bs[m]'hmc) _ hbk)
                      have cL : ∀ d os, Calls Tryd.prog 58 #[.agg #[.int .i64 (bs[m - 1]'hmp).1, .int .i64 (bs[m - 1]'hmp).2.1, .int .i64 (bs[m - 1]'hmp).2.2.1, .int .i64 (bs[m - 1]'hmp).2.2.2.1, .int .i64 (bs[m - 1]'hmp).2.2.2.2.1, .int .i64 (bs[m - 1]'hmp).2.2.2.2.2], .agg #[.int .i64 (bs[m]'hmc).1, .int .i64 (bs[m]'hmc).2.1, .int .i64 (bs[m]'hmc).2.2.1, .int .i64 (bs[m]'hmc).2.2.2.1, .int .i64 (bs[m]'hmc).2.2.2.2.1, .int .i64 (bs[m]'hmc).2.2.2.2.2]] (grow (redrawn wr d) os) fun e w'' => e = .returned (.bool true) ∧ ∃ p : Regrown, w'' = grow (redrawn wr p.d) p.os := fun d os => Calls.regrown_of (less_yes (bs[m - 1]'hmp) (bs[m]'hmc) _ hls)
                      clear hpre hbk hls
                      go_wp2
                      refine wp_region_wq (by kernel_rfl) (by kernel_rfl) ?_
                      refine WQ.want (by kernel_rfl) (fun K hK => ?_)
                      go_simp
                      refine hK _ ?_
                      clear hK K
                      refine WQ.want (by kernel_rfl) (fun K hK => ?_)
                      go_simp
                      refine hK _ ?_
                      clear hK K
                      refine WQ.want (by kernel_rfl) (fun K hK => ?_)
                      go_simp
                      refine hK _ ?_
                      clear hK K
                      refine WQ.want (by kernel_rfl) (fun K hK => ?_)
                      go_simp
                      refine hK _ ?_
                      clear hK K
                      refine WQ.want (by kernel_rfl) (fun K hK => ?_)
                      go_simp
                      refine hK _ ?_
                      clear hK K
                      refine WQ.want (by kernel_rfl) (fun K hK => ?_)
                      go_simp
                      refine hK _ ?_
                      clear hK K
                      refine WQ.want (by kernel_rfl) (fun K hK => ?_)
                      go_simp
                      refine ⟨_, fun _ => cB _ _, hK _ ?_⟩
                      clear hK K
                      clear cB
                      refine WQ.want (by kernel_rfl) (fun K hK => ?_)
                      go_simp
                      refine hK _ ?_
                      clear hK K
                      refine WQ.want (by kernel_rfl) (fun K hK => ?_)
                      go_simp
                      refine hK _ ?_
                      clear hK K
                      refine WQ.want (by kernel_rfl) (fun K hK => ?_)
                      go_simp
                      refine hK _ ?_
                      clear hK K
                      refine WQ.want (by kernel_rfl) (fun K hK => ?_)
                      go_simp
                      refine hK _ ?_
                      clear hK K
                      refine WQ.want (by kernel_rfl) (fun K hK => ?_)
                      go_simp
                      refine hK _ ?_
                      clear hK K
                      refine WQ.want (by kernel_rfl) (fun K hK => ?_)
                      go_simp
                      refine hK _ ?_
                      clear hK K
                      refine WQ.want (by kernel_rfl) (fun K hK => ?_)
                      go_simp
                      refine hK _ ?_
                      clear hK K
                      refine WQ.want (by kernel_rfl) (fun K hK => ?_)
                      go_simp
                      refine hK _ ?_
                      clear hK K
                      refine WQ.want (by kernel_rfl) (fun K hK => ?_)
                      go_simp
                      refine hK _ ?_
                      clear hK K
                      refine WQ.want (by kernel_rfl) (fun K hK => ?_)
                      go_simp
                      refine hK _ ?_
                      clear hK K
                      refine WQ.want (by kernel_rfl) (fun K hK => ?_)
                      go_simp
                      refine hK _ ?_
                      clear hK K
                      refine WQ.want (by kernel_rfl) (fun K hK => ?_)
                      go_simp
                      refine hK _ ?_
                      clear hK K
                      refine WQ.want (by kernel_rfl) (fun K hK => ?_)
                      go_simp
                      refine hK _ ?_
                      clear hK K
                      refine WQ.want (by kernel_rfl) (fun K hK => ?_)
                      go_simp
                      refine hK _ ?_
                      clear hK K
                      refine WQ.want (by kernel_rfl) (fun K hK => ?_)
                      go_simp
                      refine hK _ ?_
                      clear hK K
                      refine WQ.want (by kernel_rfl) (fun K hK => ?_)
                      go_simp
                      refine hK _ ?_
                      clear hK K
                      refine WQ.want (by kernel_rfl) (fun K hK => ?_)
                      go_simp
                      refine ⟨_, fun _ => cL _ _, hK _ ?_⟩
                      clear hK K
                      clear cL r0 r1 r2 r3 r4 r5
                      clear g0 g1 g2 g3 g4 g5 k0 k1 k2 k3 k4 k5 k6 l1
                      refine WQ.want (by kernel_rfl) (fun K hK => ?_)
                      go_simp
                      refine hK _ ?_
                      clear hK K
                      refine WQ.want (by kernel_rfl) (fun K hK => ?_)
                      go_simp
                      refine hK _ ?_
                      clear hK K
                      refine WQ.want (by kernel_rfl) (fun K hK => ?_)
                      go_simp
                      refine hK _ ?_
                      clear hK K
                      refine WQ.nil ?_
                      intro _ hw'
                      obtain ⟨⟨dq, osq⟩, hw''⟩ := hw'
                      subst hw''
                      have hb3 := hb2.trans ((below_regrown wr dq osq).mono (by have := hb2.size; simpa using this))
                      clear hb2
                      generalize grow (redrawn wr dq) osq = w3 at hb3 ⊢
                      go_wp2
                      go_roundw
                      case rel => exact ⟨m + 1, by omega, by go_num, HM, hb3⟩
                      case measure => simp [intOf]; omega
                    · have hX : True := trivial
                      have HF : Hid (¬ SectorsOk W H L ss) := HNB.out (fun h => hls ((h.2.2 m hmc).2 hm1))
                      have cB : ∀ d os, Calls Tryd.prog 57 #[.agg #[.int .i64 W, .int .i64 H, .int .i64 L, .slice ao3 ps.length cap3, .slice ao4 aw.length cap4, .slice (some ⟨b, off, none⟩) ss.length cap5, .slice ao6 rs.length cap6], .agg #[.int .i64 (bs[m]'hmc).1, .int .i64 (bs[m]'hmc).2.1, .int .i64 (bs[m]'hmc).2.2.1, .int .i64 (bs[m]'hmc).2.2.2.1, .int .i64 (bs[m]'hmc).2.2.2.2.1, .int .i64 (bs[m]'hmc).2.2.2.2.2]] (grow (redrawn wr d) os) fun e w'' => e = .returned (.bool true) ∧ ∃ p : Regrown, w'' = grow (redrawn wr p.d) p.os := fun d os => Calls.regrown_of (blockOk_yes (W, H, L, ps, aw, ss, rs) ao3 cap3 ao4 cap4 (some ⟨b, off, none⟩) cap5 ao6 cap6 (bs[m]'hmc) _ hbk)
                      have cL : ∀ d os, Calls Tryd.prog 58 #[.agg #[.int .i64 (bs[m - 1]'hmp).1, .int .i64 (bs[m - 1]'hmp).2.1, .int .i64 (bs[m - 1]'hmp).2.2.1, .int .i64 (bs[m - 1]'hmp).2.2.2.1, .int .i64 (bs[m - 1]'hmp).2.2.2.2.1, .int .i64 (bs[m - 1]'hmp).2.2.2.2.2], .agg #[.int .i64 (bs[m]'hmc).1, .int .i64 (bs[m]'hmc).2.1, .int .i64 (bs[m]'hmc).2.2.1, .int .i64 (bs[m]'hmc).2.2.2.1, .int .i64 (bs[m]'hmc).2.2.2.2.1, .int .i64 (bs[m]'hmc).2.2.2.2.2]] (grow (redrawn wr d) os) fun e w'' => e = .returned (.bool false) ∧ ∃ p : Regrown, w'' = grow (redrawn wr p.d) p.os := fun d os => Calls.regrown_of (less_no (bs[m - 1]'hmp) (bs[m]'hmc) _ hls)
                      clear hpre hbk hls
                      go_wp2
                      refine wp_region_wq (by kernel_rfl) (by kernel_rfl) ?_
                      refine WQ.want (by kernel_rfl) (fun K hK => ?_)
                      go_simp
                      refine hK _ ?_
                      clear hK K
                      refine WQ.want (by kernel_rfl) (fun K hK => ?_)
                      go_simp
                      refine hK _ ?_
                      clear hK K
                      refine WQ.want (by kernel_rfl) (fun K hK => ?_)
                      go_simp
                      refine hK _ ?_
                      clear hK K
                      refine WQ.want (by kernel_rfl) (fun K hK => ?_)
                      go_simp
                      refine hK _ ?_
                      clear hK K
                      refine WQ.want (by kernel_rfl) (fun K hK => ?_)
                      go_simp
                      refine hK _ ?_
                      clear hK K
                      refine WQ.want (by kernel_rfl) (fun K hK => ?_)
                      go_simp
                      refine hK _ ?_
                      clear hK K
                      refine WQ.want (by kernel_rfl) (fun K hK => ?_)
                      go_simp
                      refine ⟨_, fun _ => cB _ _, hK _ ?_⟩
                      clear hK K
                      clear cB
                      refine WQ.want (by kernel_rfl) (fun K hK => ?_)
                      go_simp
                      refine hK _ ?_
                      clear hK K
                      refine WQ.want (by kernel_rfl) (fun K hK => ?_)
                      go_simp
                      refine hK _ ?_
                      clear hK K
                      refine WQ.want (by kernel_rfl) (fun K hK => ?_)
                      go_simp
                      refine hK _ ?_
                      clear hK K
                      refine WQ.want (by kernel_rfl) (fun K hK => ?_)
                      go_simp
                      refine hK _ ?_
                      clear hK K
                      refine WQ.want (by kernel_rfl) (fun K hK => ?_)
                      go_simp
                      refine hK _ ?_
                      clear hK K
                      refine WQ.want (by kernel_rfl) (fun K hK => ?_)
                      go_simp
                      refine hK _ ?_
                      clear hK K
                      refine WQ.want (by kernel_rfl) (fun K hK => ?_)
                      go_simp
                      refine hK _ ?_
                      clear hK K
                      refine WQ.want (by kernel_rfl) (fun K hK => ?_)
                      go_simp
                      refine hK _ ?_
                      clear hK K
                      refine WQ.want (by kernel_rfl) (fun K hK => ?_)
                      go_simp
                      refine hK _ ?_
                      clear hK K
                      refine WQ.want (by kernel_rfl) (fun K hK => ?_)
                      go_simp
                      refine hK _ ?_
                      clear hK K
                      refine WQ.want (by kernel_rfl) (fun K hK => ?_)
                      go_simp
                      refine hK _ ?_
                      clear hK K
                      refine WQ.want (by kernel_rfl) (fun K hK => ?_)
                      go_simp
                      refine hK _ ?_
                      clear hK K
                      refine WQ.want (by kernel_rfl) (fun K hK => ?_)
                      go_simp
                      refine hK _ ?_
                      clear hK K
                      refine WQ.want (by kernel_rfl) (fun K hK => ?_)
                      go_simp
                      refine hK _ ?_
                      clear hK K
                      refine WQ.want (by kernel_rfl) (fun K hK => ?_)
                      go_simp
                      refine hK _ ?_
                      clear hK K
                      refine WQ.want (by kernel_rfl) (fun K hK => ?_)
                      go_simp
                      refine hK _ ?_
                      clear hK K
                      refine WQ.want (by kernel_rfl) (fun K hK => ?_)
                      go_simp
                      refine ⟨_, fun _ => cL _ _, hK _ ?_⟩
                      clear hK K
                      clear cL r0 r1 r2 r3 r4 r5
                      clear g0 g1 g2 g3 g4 g5 k0 k1 k2 k3 k4 k5 k6 l1
                      refine WQ.want (by kernel_rfl) (fun K hK => ?_)
                      go_simp
                      refine hK _ ?_
                      clear hK K
                      refine WQ.want (by kernel_rfl) (fun K hK => ?_)
                      go_simp
                      refine hK _ ?_
                      clear hK K
                      refine WQ.want (by kernel_rfl) (fun K hK => ?_)
                      go_simp
                      refine hK _ ?_
                      clear hK K
                      refine WQ.nil ?_
                      intro _ hw'
                      obtain ⟨⟨dq, osq⟩, hw''⟩ := hw'
                      subst hw''
                      have hb3 := hb2.trans ((below_regrown wr dq osq).mono (by have := hb2.size; simpa using this))
                      clear hb2
                      generalize grow (redrawn wr dq) osq = w3 at hb3 ⊢
                      go_wp2
                      go_ret
                      exact ⟨false, rfl, by simp [HF.out], hB.trans ((box_below hb3).mono hB.size)⟩
                  · have hX : True := trivial
                    have hd2 : decide ((0 : Int) < (m : Int)) = false := by simp; omega
                    have HM : Hid (BlocksPre W H L bs (m + 1)) := fun t ht h1 => by
                      by_cases e : t = m
                      · subst e; exact ⟨hbk, fun h0 => absurd h0 hm1⟩
                      · exact hpre.out t ht (by omega)
                    have g0 := cell_regrown f0
                    have g1 := cell_regrown f1
                    have g2 := cell_regrown f2
                    have g3 := cell_regrown f3
                    have g4 := cell_regrown f4
                    have g5 := cell_regrown f5
                    have k0 := cell_regrown z0
                    have k1 := cell_regrown z1
                    have k2 := cell_regrown z2
                    have k3 := cell_regrown z3
                    have k4 := cell_regrown z4
                    have k5 := cell_regrown z5
                    have k6 := cell_regrown z6
                    have l1 := cell_regrown y1
                    clear f0 f1 f2 f3 f4 f5 z0 z1 z2 z3 z4 z5 z6
                    have cB : ∀ d os, Calls Tryd.prog 57 #[.agg #[.int .i64 W, .int .i64 H, .int .i64 L, .slice ao3 ps.length cap3, .slice ao4 aw.length cap4, .slice (some ⟨b, off, none⟩) ss.length cap5, .slice ao6 rs.length cap6], .agg #[.int .i64 (bs[m]'hmc).1, .int .i64 (bs[m]'hmc).2.1, .int .i64 (bs[m]'hmc).2.2.1, .int .i64 (bs[m]'hmc).2.2.2.1, .int .i64 (bs[m]'hmc).2.2.2.2.1, .int .i64 (bs[m]'hmc).2.2.2.2.2]] (grow (redrawn wr d) os) fun e w'' => e = .returned (.bool true) ∧ ∃ p : Regrown, w'' = grow (redrawn wr p.d) p.os := fun d os => Calls.regrown_of (blockOk_yes (W, H, L, ps, aw, ss, rs) ao3 cap3 ao4 cap4 (some ⟨b, off, none⟩) cap5 ao6 cap6 (bs[m]'hmc) _ hbk)
                    clear hpre hbk
                    go_wp2
                    refine wp_region_wq (by kernel_rfl) (by kernel_rfl) ?_
                    refine WQ.want (by kernel_rfl) (fun K hK => ?_)
                    go_simp
                    refine hK _ ?_
                    clear hK K
                    refine WQ.want (by kernel_rfl) (fun K hK => ?_)
                    go_simp
                    refine hK _ ?_
                    clear hK K
                    refine WQ.want (by kernel_rfl) (fun K hK => ?_)
                    go_simp
                    refine hK _ ?_
                    clear hK K
                    refine WQ.want (by kernel_rfl) (fun K hK => ?_)
                    go_simp
                    refine hK _ ?_
                    clear hK K
                    refine WQ.want (by kernel_rfl) (fun K hK => ?_)
                    go_simp
                    refine hK _ ?_
                    clear hK K
                    refine WQ.want (by kernel_rfl) (fun K hK => ?_)
                    go_simp
                    refine hK _ ?_
                    clear hK K
                    refine WQ.want (by kernel_rfl) (fun K hK => ?_)
                    go_simp
                    refine ⟨_, fun _ => cB _ _, hK _ ?_⟩
                    clear hK K
                    clear cB
                    clear g0 g1 g2 g3 g4 g5 k0 k1 k2 k3 k4 k5 k6 l1
                    refine WQ.want (by kernel_rfl) (fun K hK => ?_)
                    go_simp
                    refine hK _ ?_
                    clear hK K
                    refine WQ.want (by kernel_rfl) (fun K hK => ?_)
                    go_simp
                    refine hK _ ?_
                    clear hK K
                    refine WQ.want (by kernel_rfl) (fun K hK => ?_)
                    go_simp
                    refine hK _ ?_
                    clear hK K
                    refine WQ.want (by kernel_rfl) (fun K hK => ?_)
                    go_simp
                    refine hK _ ?_
                    clear hK K
                    refine WQ.want (by kernel_rfl) (fun K hK => ?_)
                    go_simp
                    refine hK _ ?_
                    clear hK K
                    refine WQ.skip (by kernel_rfl) ?_
                    refine WQ.skip (by kernel_rfl) ?_
                    refine WQ.skip (by kernel_rfl) ?_
                    refine WQ.skip (by kernel_rfl) ?_
                    refine WQ.skip (by kernel_rfl) ?_
                    refine WQ.skip (by kernel_rfl) ?_
                    refine WQ.skip (by kernel_rfl) ?_
                    refine WQ.skip (by kernel_rfl) ?_
                    refine WQ.skip (by kernel_rfl) ?_
                    refine WQ.skip (by kernel_rfl) ?_
                    refine WQ.skip (by kernel_rfl) ?_
                    refine WQ.skip (by kernel_rfl) ?_
                    refine WQ.skip (by kernel_rfl) ?_
                    refine WQ.want (by kernel_rfl) (fun K hK => ?_)
                    go_simp
                    refine hK _ ?_
                    clear hK K
                    refine WQ.want (by kernel_rfl) (fun K hK => ?_)
                    go_simp
                    refine hK _ ?_
                    clear hK K
                    refine WQ.nil ?_
                    intro _ hw'
                    obtain ⟨⟨dq, osq⟩, hw''⟩ := hw'
                    subst hw''
                    have hb3 := hb2.trans ((below_regrown wr dq osq).mono (by have := hb2.size; simpa using this))
                    clear hb2
                    generalize grow (redrawn wr dq) osq = w3 at hb3 ⊢
                    go_wp2
                    go_roundw
                    case rel => exact ⟨m + 1, by omega, by go_num, HM, hb3⟩
                    case measure => simp [intOf]; omega
                · have hX : True := trivial
                  have HF : Hid (¬ SectorsOk W H L ss) := HNB.out (fun h => hbk (h.2.2 m hmc).1)
                  have g0 := cell_regrown f0
                  have g1 := cell_regrown f1
                  have g2 := cell_regrown f2
                  have g3 := cell_regrown f3
                  have g4 := cell_regrown f4
                  have g5 := cell_regrown f5
                  have k0 := cell_regrown z0
                  have k1 := cell_regrown z1
                  have k2 := cell_regrown z2
                  have k3 := cell_regrown z3
                  have k4 := cell_regrown z4
                  have k5 := cell_regrown z5
                  have k6 := cell_regrown z6
                  have l1 := cell_regrown y1
                  clear f0 f1 f2 f3 f4 f5 z0 z1 z2 z3 z4 z5 z6
                  have cB : ∀ d os, Calls Tryd.prog 57 #[.agg #[.int .i64 W, .int .i64 H, .int .i64 L, .slice ao3 ps.length cap3, .slice ao4 aw.length cap4, .slice (some ⟨b, off, none⟩) ss.length cap5, .slice ao6 rs.length cap6], .agg #[.int .i64 (bs[m]'hmc).1, .int .i64 (bs[m]'hmc).2.1, .int .i64 (bs[m]'hmc).2.2.1, .int .i64 (bs[m]'hmc).2.2.2.1, .int .i64 (bs[m]'hmc).2.2.2.2.1, .int .i64 (bs[m]'hmc).2.2.2.2.2]] (grow (redrawn wr d) os) fun e w'' => e = .returned (.bool false) ∧ ∃ p : Regrown, w'' = grow (redrawn wr p.d) p.os := fun d os => Calls.regrown_of (blockOk_no (W, H, L, ps, aw, ss, rs) ao3 cap3 ao4 cap4 (some ⟨b, off, none⟩) cap5 ao6 cap6 (bs[m]'hmc) _ hbk)
                  clear hpre hbk
                  go_wp2
                  refine wp_region_wq (by kernel_rfl) (by kernel_rfl) ?_
                  refine WQ.want (by kernel_rfl) (fun K hK => ?_)
                  go_simp
                  refine hK _ ?_
                  clear hK K
                  refine WQ.want (by kernel_rfl) (fun K hK => ?_)
                  go_simp
                  refine hK _ ?_
                  clear hK K
                  refine WQ.want (by kernel_rfl) (fun K hK => ?_)
                  go_simp
                  refine hK _ ?_
                  clear hK K
                  refine WQ.want (by kernel_rfl) (fun K hK => ?_)
                  go_simp
                  refine hK _ ?_
                  clear hK K
                  refine WQ.want (by kernel_rfl) (fun K hK => ?_)
                  go_simp
                  refine hK _ ?_
                  clear hK K
                  refine WQ.want (by kernel_rfl) (fun K hK => ?_)
                  go_simp
                  refine hK _ ?_
                  clear hK K
                  refine WQ.want (by kernel_rfl) (fun K hK => ?_)
                  go_simp
                  refine ⟨_, fun _ => cB _ _, hK _ ?_⟩
                  clear hK K
                  clear cB
                  clear g0 g1 g2 g3 g4 g5 k0 k1 k2 k3 k4 k5 k6 l1
                  refine WQ.want (by kernel_rfl) (fun K hK => ?_)
                  go_simp
                  refine hK _ ?_
                  clear hK K
                  refine WQ.want (by kernel_rfl) (fun K hK => ?_)
                  go_simp
                  refine hK _ ?_
                  clear hK K
                  refine WQ.skip (by kernel_rfl) ?_
                  refine WQ.skip (by kernel_rfl) ?_
                  refine WQ.skip (by kernel_rfl) ?_
                  refine WQ.skip (by kernel_rfl) ?_
                  refine WQ.skip (by kernel_rfl) ?_
                  refine WQ.skip (by kernel_rfl) ?_
                  refine WQ.skip (by kernel_rfl) ?_
                  refine WQ.skip (by kernel_rfl) ?_
                  refine WQ.skip (by kernel_rfl) ?_
                  refine WQ.skip (by kernel_rfl) ?_
                  refine WQ.skip (by kernel_rfl) ?_
                  refine WQ.skip (by kernel_rfl) ?_
                  refine WQ.skip (by kernel_rfl) ?_
                  refine WQ.skip (by kernel_rfl) ?_
                  refine WQ.skip (by kernel_rfl) ?_
                  refine WQ.skip (by kernel_rfl) ?_
                  refine WQ.skip (by kernel_rfl) ?_
                  refine WQ.want (by kernel_rfl) (fun K hK => ?_)
                  go_simp
                  refine hK _ ?_
                  clear hK K
                  refine WQ.nil ?_
                  intro _ hw'
                  obtain ⟨⟨dq, osq⟩, hw''⟩ := hw'
                  subst hw''
                  have hb3 := hb2.trans ((below_regrown wr dq osq).mono (by have := hb2.size; simpa using this))
                  clear hb2
                  generalize grow (redrawn wr dq) osq = w3 at hb3 ⊢
                  go_wp2
                  go_ret
                  exact ⟨false, rfl, by simp [HF.out], hB.trans ((box_below hb3).mono hB.size)⟩
              · have HP : Hid (SectorOk W H L ss k hlt) := HYB.out ⟨hc1, hc4, fun t ht => hpre.out t ht (by omega)⟩
                have HA : Hid (∀ j h, j < k + 1 → SectorOk W H L ss j h) := fun j h hj => by
                  by_cases e : j = k
                  · subst e; exact HP.out
                  · exact HALL.out j h (by omega)
                have y1 := box_cell hb2 1
                simp at y1
                have hb4 := hbel.trans ((box_below hb2).mono (by have := hbel.size; simpa using this))
                clear hpre HP HALL HYB HNB
                go_wp2
                go_roundw
                case rel => exact ⟨k + 1, by omega, by go_num, HA, hb4⟩
                case measure => simp [intOf]; omega
          · have HN : Hid (¬ SectorsOk W H L ss) := fun h => hC ⟨by have := (h.2 k hlt).2.2.1; omega, by have := (h.2 k hlt).2.2.2.1; omega⟩
            clear hall
            go_wp2
            go_quiet ((first | (go_at_call 55; exact Calls.quiet_of_same (nameOk_yes _ _ q0 hname)) | (go_at_call 30; exact Calls.quiet_of_same (in_yes _ _ _ _ (by assumption))) | (go_at_call 30; exact Calls.quiet_of_same (in_no _ _ _ _ (by assumption)))))
            go_wp2
            go_ret
            exact ⟨false, rfl, by simp [HN.out], below_drewN (hB.alloc hB.size _) _⟩
      · have HN : Hid (¬ SectorsOk W H L ss) := fun h => hname (h.2 k hlt).1
        clear hall
        go_wp2
        go_quiet ((go_at_call 55; exact Calls.quiet_of_same (nameOk_no _ _ q0 hname)))
        go_wp2
        go_ret
        exact ⟨false, rfl, by simp [HN.out], below_drewN (hB.alloc hB.size _) _⟩
    · have HN : Hid (SectorsOk W H L ss) := ⟨by omega, fun j h => hall.out j h (by omega)⟩
      go_wp2
      go_ret
      exact ⟨true, rfl, by simp [HN.out], hB⟩

end Go.Proofs.YthkpjljhjdjbfaaDoor
