/- DERIVED. spec.PlanOver: its walk (written by wip/tools/mk_po.py). -/
import Derived.Test.YtgnjkpmbppmoeaaGreatKGPd
import Derived.Test.YtgnjkpmbppmoeaaGreatKPpS0
import Derived.Test.YtgnjkpmbppmoeaaGreatKWq0
import Derived.Test.YtgnjkpmbppmoeaaGreatKPQ0
namespace Go.Proofs.YtgnjkpmbppmoeaaGreat
namespace Pth
open Go.RowKit Go.Sort Leg Pcl Go.Proofs.YtgnjkpmbppmoeaaGreat.Std Lev
set_option linter.unusedSimpArgs false
set_option linter.unusedVariables false

set_option maxRecDepth 100000 in
set_option maxHeartbeats 8000000 in
theorem sOver (bk : DPlanBook) (nm pt : ByteArray) (ao0 : Option Addr) (cap0 : Nat) (ao1 : Option Addr) (cap1 : Nat) (ao2 : Option Addr) (cap2 : Nat) (w : World) (p0 : SliceAt vPlanKind (old w) w ao0 cap0 bk.1.1) (p1 : SliceAt vPlanPoint (old w) w ao1 cap1 bk.1.2) (p2 : SliceAt vPlanEntry (old w) w ao2 cap2 bk.2) (hs : wPlanEntryS bk.2 ≤ 1048576) :
    Calls Tryz.prog 20 #[.agg #[.slice ao0 bk.1.1.length cap0, .slice ao1 bk.1.2.length cap1, .slice ao2 bk.2.length cap2], .string nm, .string pt] w fun r w' => r = .returned (.tuple #[.int .i64 (overF bk nm pt).1, .int .i64 (overF bk nm pt).2.1, .bool (overF bk nm pt).2.2]) ∧ Below w.heap.size w w' := by
  obtain ⟨w0, hw0⟩ : ∃ w0 : World, w0 = w.alloc (.cells #[.slice ao0 bk.1.1.length cap0, .slice ao1 bk.1.2.length cap1, .slice ao2 bk.2.length cap2] 43) := ⟨_, rfl⟩
  have hb0 : Below w.heap.size w w0 := by rw [hw0]; exact (Below.refl _ _).alloc (Nat.le_refl _) _
  have hBB : BxC w.heap.size #[.slice ao0 bk.1.1.length cap0, .slice ao1 bk.1.2.length cap1, .slice ao2 bk.2.length cap2] w0 := by rw [hw0]; exact BxC.new _ _ _
  have hz0 : w0.heap.size = w.heap.size + 1 := by rw [hw0]; simp
  have HT := sPathOf bk nm ao0 cap0 ao1 cap1 ao2 cap2 w0 (p0.later hb0) (p1.later hb0) (p2.later hb0) hs
  have HYES : Hid ((pathF bk nm).2 = 0 → HasNm nmP bk.1.2 pt → overF bk nm pt = overL (findD nmP zP bk.1.2 pt).2.1 (findD nmP zP bk.1.2 pt).2.2 (pathF bk nm).1.2.2 (pathF bk nm).1.1) := over_yes
  have HNO : Hid (¬ ((pathF bk nm).2 = 0 ∧ HasNm nmP bk.1.2 pt) → overF bk nm pt = (0, 0, false)) := over_no
  have HLEN := pathF_len bk nm
  have HRNG := pathF_rng bk nm
  generalize pathF bk nm = PF at HT HYES HNO HLEN HRNG
  obtain ⟨⟨L, lo, up⟩, code⟩ := PF
  simp only at HT HYES HNO HLEN HRNG
  obtain ⟨HR1, HR2⟩ := HRNG
  rw [hw0] at HT
  go_enter Tryz.func20, Tryz.ntmps20
  go_wp2_with fail
  refine HT.mono ?_
  rw [← hw0]
  rintro e w1 ⟨so, sc, rfl, hO1, hb1⟩
  have hA1 := atPlanStep_owns hO1
  have hscl : L.length ≤ sc ∧ sc ≤ maxLen := by
    rcases hO1.2 with ⟨h1, _⟩ | ⟨_, c3, _, h1, _, _, h2, h3, _⟩
    · injection h1 with _ e2 e3
      unfold maxLen; omega
    · injection h1 with _ _ e3
      subst e3
      exact ⟨h2, h3⟩
  have hscm : sc ≤ 9223372036854775807 := hscl.2
  have hscl := hscl.1
  have B1 := hb0.trans (hb1.mono (by omega))
  have hBB1 := hBB.below hb1 (by omega)
  have hz1 : w.heap.size < w1.heap.size := by have := hb1.size; omega
  clear HT hO1 hb1 hBB hb0 hw0 hz0
  obtain ⟨w2, hw2⟩ : ∃ w2 : World, w2 = w1.alloc (.cells #[.slice so L.length sc, .int .i64 lo, .int .i64 up] 52) := ⟨_, rfl⟩
  have hb2 : Below w1.heap.size w1 w2 := by rw [hw2]; exact (Below.refl _ _).alloc (Nat.le_refl _) _
  have hz2 : w2.heap.size = w1.heap.size + 1 := by rw [hw2]; simp
  have HP2 : BxC w1.heap.size #[.slice so L.length sc, .int .i64 lo, .int .i64 up] w2 := by rw [hw2]; exact BxC.new _ _ _
  have B2 := B1.trans (hb2.mono (by omega))
  have hA2 := hA1.later hb2
  have HBB2 := hBB1.below hb2 hz1
  have HF := sPlanPoint bk.1 ao0 cap0 ao1 cap1 pt w2 ⟨p0.later B2, p1.later B2⟩
  have y0 := hBB1 0
  have y1 := hBB1 1
  have y2 := hBB1 2
  simp at y0 y1 y2
  rw [hw2] at HF
  clear hA1 hBB1
  go_wp2_with fail
  refine HF.mono ?_
  rw [← hw2]
  rintro e w4 ⟨rfl, hb4⟩
  have B4 := B2.trans (hb4.mono (by omega))
  have HPB4 := HP2.below hb4 (by omega)
  have HBB4 := HBB2.below hb4 (by omega)
  have HA4 := hA2.later hb4
  have HPl : w1.heap.size < w4.heap.size := by have := hb4.size; omega
  have HBl : w.heap.size < w4.heap.size := by omega
  clear HF y0 y1 y2 hw2 hb2 HP2 hA2 hb4 B1 B2 HBB2
  have HB4 : Hid _ := B4
  rcases idxTo_cases nmP bk.1.2 pt bk.1.2.length (Nat.le_refl _) with hn | ⟨ki, hki, hn, hnm⟩
  · have hh : ¬ HasNm nmP bk.1.2 pt := hn.all
    rw [idxOf_none hn]
    have HF : Hid (overF bk nm pt = (0, 0, false)) := HNO.out (fun h => hh h.2)
    clear HYES HNO HR1 HR2 HPB4 HBB4 HA4 hn hh
    by_cases hc : code = 0
    · have hc0 : (code != 0) = false := by simp [hc]
      subst hc
      go_wp2
      refine bodyPost_ret (v := .tuple #[.int .i64 0, .int .i64 0, .bool false]) (by simp [results, Tryz.results20, go_sem]) rfl ⟨by rw [HF.out], B4⟩
    · have hc0 : (code != 0) = true := by simp [hc]
      go_wp2
      refine bodyPost_ret (v := .tuple #[.int .i64 0, .int .i64 0, .bool false]) (by simp [results, Tryz.results20, go_sem]) rfl ⟨by rw [HF.out], B4⟩
  · rw [idxOf_hit hn hki hnm]
    by_cases hc : code = 0
    · have HOV : Hid (overF bk nm pt = overL (bk.1.2[ki]'hki).2.1 (bk.1.2[ki]'hki).2.2 up L) := (HYES.out hc ⟨ki, hki, hnm⟩).trans (by rw [findD_hit hn hki hnm])
      have hc0 : (code != 0) = false := by simp [hc]
      have hk0 : ¬ (ki : Int) < 0 := by omega
      have hkd : decide ((ki : Int) < 0) = false := decide_eq_false hk0
      have hkiI : (ki : Int) < (bk.1.2.length : Int) := by omega
      have hnki : (bk.1.2.length ≤ ki) = False := by simp; omega
      have hcap1 : cap1 ≤ 9223372036854775807 := p1.2.1
      have hl1 : bk.1.2.length ≤ cap1 := p1.1
      clear HYES HNO
      subst hc
      obtain ⟨b1, off1, rfl, hok1, q0, q1, q2, -, -⟩ := elem_PlanPoint p1 hki
      clear hn hnm
      generalize bk.1.2[ki]'hki = pp at *
      obtain ⟨pn, x, y⟩ := pp
      simp only at q0 q1 q2 HOV
      go_wp2_with fail
      go_loopw [12] (fun i wr => ∃ k : Nat, k ≤ L.length ∧ i = .int .i64 k ∧ Hid (overL x y up L = overL x y up (L.drop k)) ∧ Below w4.heap.size w4 wr) (fun i _ => L.length - (intOf i).toNat)
      case atStart => exact ⟨0, Nat.zero_le _, rfl, rfl, Below.refl _ _⟩
      case round =>
        obtain ⟨k, hk, rfl, hpre, hB⟩ := hrel
        have hzr := hB.size
        have hBl' : w.heap.size < wr.heap.size := by omega
        have hPl' : w1.heap.size < wr.heap.size := by omega
        have z0 := (HPB4.below hB HPl) 0
        have z2 := (HPB4.below hB HPl) 2
        have w1' := ((HBB4.below hB HBl)) 1
        simp at z0 z2 w1'
        by_cases hlt : k < L.length
        · have hkI : (k : Int) < (L.length : Int) := by omega
          have hnk : (L.length ≤ k) = False := by simp; omega
          obtain ⟨g, rfl, hg, c0, c1, c2, c3, c4, c5⟩ := HA4.elem hlt
          have hpc := HB4.out.trans (hB.mono HB4.out.size)
          have pc1 := (hpc.cell (p := ⟨b1, off1 + ki * 3 + 1, none⟩) hok1).trans q1
          have pc2 := (hpc.cell (p := ⟨b1, off1 + ki * 3 + 2, none⟩) hok1).trans q2
          have d0 := (hB.cell (p := ⟨g, k * 6, none⟩) hg).trans c0
          have d1 := (hB.cell (p := ⟨g, k * 6 + 1, none⟩) hg).trans c1
          have d4 := (hB.cell (p := ⟨g, k * 6 + 4, none⟩) hg).trans c4
          have d5 := (hB.cell (p := ⟨g, k * 6 + 5, none⟩) hg).trans c5
          have HHIT : Hid ((L[k]'hlt).1 = x ∧ (L[k]'hlt).2.1 = y → overF bk nm pt = ((L[k]'hlt).2.2.2.2.1, byAt L up (k + 1) - 1, true)) := fun h => HOV.out.trans (hpre.out.trans (overL_hit hlt h))
          have HMISS : Hid (¬ ((L[k]'hlt).1 = x ∧ (L[k]'hlt).2.1 = y) → overL x y up L = overL x y up (L.drop (k + 1))) := fun h => hpre.out.trans (overL_miss hlt h)
          have HBY := byAt_rng HR1 HR2 (show k + 1 ≤ L.length by omega)
          have hk1w : IntKind.i64.wrap ((k : Int) + 1) = (k : Int) + 1 := by rw [IntKind.wrap_i64] <;> omega
          have HNX : Hid (∀ h : k + 1 < L.length, byAt L up (k + 1) = (L[k + 1]'h).2.2.2.2.2 ∧ w4.cell? ⟨g, (k + 1) * 6 + 5, none⟩ = some (.int .i64 (L[k + 1]'h).2.2.2.2.2)) := fun h => ⟨byAt_lt h, by
            obtain ⟨g', e', _, _, _, _, _, _, m5⟩ := HA4.elem h
            cases e'
            exact m5⟩
          have HND : Hid (¬ k + 1 < L.length → byAt L up (k + 1) = up) := fun h => by
            have e : k + 1 = L.length := by omega
            rw [e, byAt_end]
          clear c0 c1 c2 c3 c5 hpre HR2 HOV hpc q0 q1 q2
          generalize hS : L[k]'hlt = S at *
          obtain ⟨sx, sy, sl, sh, sf, sb⟩ := S
          simp only at c4 d0 d1 d4 d5 HHIT HMISS
          clear hS
          by_cases hx : sx = x
          · subst hx
            by_cases hy : sy = y
            · subst hy
              have HM0 := HHIT.out ⟨rfl, rfl⟩
              clear HMISS HHIT
              go_wp2_with fail
              have gz0 := cell_regrown z0
              have gz2 := cell_regrown z2
              have gw1' := cell_regrown w1'
              have gd0 := cell_regrown d0
              have gd1 := cell_regrown d1
              have gd4 := cell_regrown d4
              have gd5 := cell_regrown d5
              have gpc1 := cell_regrown pc1
              have gpc2 := cell_regrown pc2
              clear z0 z2 w1' d0 d1 d4 d5 pc1 pc2
              refine Leg.wp_region_qw (by kernel_rfl) (by kernel_rfl) ?_
              refine Leg.QW.want (by kernel_rfl) (fun K hK => ?_)
              go_big_quiet_op
              refine hK _ ?_
              clear hK K
              refine Leg.QW.want (by kernel_rfl) (fun K hK => ?_)
              go_big_quiet_op
              refine hK _ ?_
              clear hK K
              refine Leg.QW.want (by kernel_rfl) (fun K hK => ?_)
              go_big_quiet_op
              refine hK _ ?_
              clear hK K
              refine Leg.QW.want (by kernel_rfl) (fun K hK => ?_)
              go_big_quiet_op
              refine hK _ ?_
              clear hK K
              refine Leg.QW.want (by kernel_rfl) (fun K hK => ?_)
              go_big_quiet_op
              refine hK _ ?_
              clear hK K
              refine Leg.QW.want (by kernel_rfl) (fun K hK => ?_)
              go_big_quiet_op
              refine hK _ ?_
              clear hK K
              refine Leg.QW.want (by kernel_rfl) (fun K hK => ?_)
              go_big_quiet_op
              refine hK _ ?_
              clear hK K
              refine Leg.QW.want (by kernel_rfl) (fun K hK => ?_)
              go_big_quiet_op
              refine hK _ ?_
              clear hK K
              refine Leg.QW.want (by kernel_rfl) (fun K hK => ?_)
              go_big_quiet_op
              refine hK _ ?_
              clear hK K
              refine Leg.QW.want (by kernel_rfl) (fun K hK => ?_)
              go_big_quiet_op
              refine hK _ ?_
              clear hK K
              refine Leg.QW.want (by kernel_rfl) (fun K hK => ?_)
              go_big_quiet_op
              refine hK _ ?_
              clear hK K
              refine Leg.QW.want (by kernel_rfl) (fun K hK => ?_)
              go_big_quiet_op
              refine hK _ ?_
              clear hK K
              refine Leg.QW.want (by kernel_rfl) (fun K hK => ?_)
              go_big_quiet_op
              refine hK _ ?_
              clear hK K
              refine Leg.QW.want (by kernel_rfl) (fun K hK => ?_)
              go_big_quiet_op
              refine hK _ ?_
              clear hK K
              refine Leg.QW.want (by kernel_rfl) (fun K hK => ?_)
              go_big_quiet_op
              refine hK _ ?_
              clear hK K
              refine Leg.QW.want (by kernel_rfl) (fun K hK => ?_)
              go_big_quiet_op
              refine hK _ ?_
              clear hK K
              refine Leg.QW.want (by kernel_rfl) (fun K hK => ?_)
              go_big_quiet_op
              refine hK _ ?_
              clear hK K
              refine Leg.QW.want (by kernel_rfl) (fun K hK => ?_)
              go_big_quiet_op
              refine hK _ ?_
              clear hK K
              refine Leg.QW.want (by kernel_rfl) (fun K hK => ?_)
              go_big_quiet_op
              refine hK _ ?_
              clear hK K
              refine Leg.QW.want (by kernel_rfl) (fun K hK => ?_)
              go_big_quiet_op
              refine hK _ ?_
              clear hK K
              refine Leg.QW.want (by kernel_rfl) (fun K hK => ?_)
              go_big_quiet_op
              refine hK _ ?_
              clear hK K
              refine Leg.QW.want (by kernel_rfl) (fun K hK => ?_)
              go_big_quiet_op
              refine hK _ ?_
              clear hK K
              refine Leg.QW.want (by kernel_rfl) (fun K hK => ?_)
              go_big_quiet_op
              refine hK _ ?_
              clear hK K
              refine Leg.QW.want (by kernel_rfl) (fun K hK => ?_)
              go_big_quiet_op
              refine hK _ ?_
              clear hK K
              refine Leg.QW.want (by kernel_rfl) (fun K hK => ?_)
              go_big_quiet_op
              refine hK _ ?_
              clear hK K
              refine Leg.QW.want (by kernel_rfl) (fun K hK => ?_)
              go_big_quiet_op
              refine hK _ ?_
              clear hK K
              refine Leg.QW.want (by kernel_rfl) (fun K hK => ?_)
              go_big_quiet_op
              refine hK _ ?_
              clear hK K
              refine Leg.QW.want (by kernel_rfl) (fun K hK => ?_)
              go_big_quiet_op
              refine hK _ ?_
              clear hK K
              refine Leg.QW.want (by kernel_rfl) (fun K hK => ?_)
              go_big_quiet_op
              refine hK _ ?_
              clear hK K
              refine Leg.QW.want (by kernel_rfl) (fun K hK => ?_)
              go_big_quiet_op
              refine hK _ ?_
              clear hK K
              refine Leg.QW.nil ?_
              clear gz0 gz2 gw1' gd0 gd1 gd4 gd5 gpc1 gpc2
              intro _ hw'
              obtain ⟨⟨dq, osq⟩, hw''⟩ := hw'
              subst hw''
              have hw8 := hB.trans ((below_regrown wr dq osq).mono hB.size)
              generalize grow (redrawn wr dq) osq = w8 at hw8 ⊢
              have z0 := (HPB4.below hw8 HPl) 0
              simp at z0
              have hz8 := hw8.size
              have hPl8 : w1.heap.size < w8.heap.size := by omega
              by_cases hnx : k + 1 < L.length
              · obtain ⟨HBE, m5⟩ := HNX.out hnx
                rw [HBE] at HM0 HBY
                have HM : Hid (overF bk nm pt = (sf, (L[k + 1]'hnx).2.2.2.2.2 - 1, true)) := HM0
                clear HM0 HNX HND HBE
                generalize (L[k + 1]'hnx).2.2.2.2.2 = nb at *
                have hnbw : IntKind.i64.wrap (nb - 1) = nb - 1 := by rw [IntKind.wrap_i64] <;> omega
                have hk1I : (k : Int) + 1 < (L.length : Int) := by omega
                have hk1d : decide ((k : Int) + 1 < (L.length : Int)) = true := by simp; omega
                have hk1N : ((k : Int) + 1).toNat = k + 1 := by omega
                have hk1n : (L.length ≤ k + 1) = False := by simp; omega
                have z0 := (HPB4.below hw8 HPl) 0
                have z2 := (HPB4.below hw8 HPl) 2
                simp at z0 z2
                have d4 := (hw8.cell (p := ⟨g, k * 6 + 4, none⟩) hg).trans c4
                have n5 := (hw8.cell (p := ⟨g, (k + 1) * 6 + 5, none⟩) hg).trans m5
                go_wp2_with fail
                have gz0 := cell_regrown z0
                have gd4 := cell_regrown d4
                have gn5 := cell_regrown n5
                clear z0 d4 n5
                refine Leg.wp_region_qw (by kernel_rfl) (by kernel_rfl) ?_
                refine Leg.QW.want (by kernel_rfl) (fun K hK => ?_)
                go_big_quiet_op
                refine hK _ ?_
                clear hK K
                refine Leg.QW.want (by kernel_rfl) (fun K hK => ?_)
                go_big_quiet_op
                refine hK _ ?_
                clear hK K
                refine Leg.QW.want (by kernel_rfl) (fun K hK => ?_)
                go_big_quiet_op
                refine hK _ ?_
                clear hK K
                refine Leg.QW.want (by kernel_rfl) (fun K hK => ?_)
                go_big_quiet_op
                refine hK _ ?_
                clear hK K
                refine Leg.QW.want (by kernel_rfl) (fun K hK => ?_)
                go_big_quiet_op
                refine hK _ ?_
                clear hK K
                refine Leg.QW.want (by kernel_rfl) (fun K hK => ?_)
                go_big_quiet_op
                refine hK _ ?_
                clear hK K
                refine Leg.QW.want (by kernel_rfl) (fun K hK => ?_)
                go_big_quiet_op
                refine hK _ ?_
                clear hK K
                refine Leg.QW.want (by kernel_rfl) (fun K hK => ?_)
                go_big_quiet_op
                refine hK _ ?_
                clear hK K
                refine Leg.QW.want (by kernel_rfl) (fun K hK => ?_)
                go_big_quiet_op
                refine hK _ ?_
                clear hK K
                refine Leg.QW.want (by kernel_rfl) (fun K hK => ?_)
                go_big_quiet_op
                refine hK _ ?_
                clear hK K
                refine Leg.QW.want (by kernel_rfl) (fun K hK => ?_)
                go_big_quiet_op
                refine hK _ ?_
                clear hK K
                refine Leg.QW.want (by kernel_rfl) (fun K hK => ?_)
                go_big_quiet_op
                refine hK _ ?_
                clear hK K
                refine Leg.QW.want (by kernel_rfl) (fun K hK => ?_)
                go_big_quiet_op
                refine hK _ ?_
                clear hK K
                refine Leg.QW.want (by kernel_rfl) (fun K hK => ?_)
                go_big_quiet_op
                refine hK _ ?_
                clear hK K
                refine Leg.QW.want (by kernel_rfl) (fun K hK => ?_)
                go_big_quiet_op
                refine hK _ ?_
                clear hK K
                refine Leg.QW.want (by kernel_rfl) (fun K hK => ?_)
                go_big_quiet_op
                refine hK _ ?_
                clear hK K
                refine Leg.QW.want (by kernel_rfl) (fun K hK => ?_)
                go_big_quiet_op
                refine hK _ ?_
                clear hK K
                refine Leg.QW.nil ?_
                clear gz0 gd4 gn5
                intro _ hw'
                obtain ⟨⟨dq, osq⟩, hw''⟩ := hw'
                subst hw''
                have hw9 := hw8.trans ((below_regrown w8 dq osq).mono hw8.size)
                generalize grow (redrawn w8 dq) osq = w9 at hw9 ⊢
                go_wp2
                refine bodyPost_ret (v := .tuple #[.int .i64 sf, .int .i64 (nb - 1), .bool true]) (by simp [results, Tryz.results20, go_sem]) rfl ⟨by rw [HM.out], HB4.out.trans (hw9.mono HB4.out.size)⟩
              · have HBE := HND.out hnx
                rw [HBE] at HM0 HBY
                have HM : Hid (overF bk nm pt = (sf, up - 1, true)) := HM0
                clear HM0 HNX HND HBE
                have hnbw : IntKind.i64.wrap (up - 1) = up - 1 := by rw [IntKind.wrap_i64] <;> omega
                have hk1I : ¬ (k : Int) + 1 < (L.length : Int) := by omega
                have hk1d : decide ((k : Int) + 1 < (L.length : Int)) = false := by simp; omega
                have z0 := (HPB4.below hw8 HPl) 0
                have z2 := (HPB4.below hw8 HPl) 2
                simp at z0 z2
                have d4 := (hw8.cell (p := ⟨g, k * 6 + 4, none⟩) hg).trans c4
                go_wp2_with fail
                have gz0 := cell_regrown z0
                have gd4 := cell_regrown d4
                have gz2 := cell_regrown z2
                clear z0 d4 z2
                refine Leg.wp_region_qw (by kernel_rfl) (by kernel_rfl) ?_
                refine Leg.QW.want (by kernel_rfl) (fun K hK => ?_)
                go_big_quiet_op
                refine hK _ ?_
                clear hK K
                refine Leg.QW.want (by kernel_rfl) (fun K hK => ?_)
                go_big_quiet_op
                refine hK _ ?_
                clear hK K
                refine Leg.QW.want (by kernel_rfl) (fun K hK => ?_)
                go_big_quiet_op
                refine hK _ ?_
                clear hK K
                refine Leg.QW.want (by kernel_rfl) (fun K hK => ?_)
                go_big_quiet_op
                refine hK _ ?_
                clear hK K
                refine Leg.QW.want (by kernel_rfl) (fun K hK => ?_)
                go_big_quiet_op
                refine hK _ ?_
                clear hK K
                refine Leg.QW.want (by kernel_rfl) (fun K hK => ?_)
                go_big_quiet_op
                refine hK _ ?_
                clear hK K
                refine Leg.QW.want (by kernel_rfl) (fun K hK => ?_)
                go_big_quiet_op
                refine hK _ ?_
                clear hK K
                refine Leg.QW.want (by kernel_rfl) (fun K hK => ?_)
                go_big_quiet_op
                refine hK _ ?_
                clear hK K
                refine Leg.QW.want (by kernel_rfl) (fun K hK => ?_)
                go_big_quiet_op
                refine hK _ ?_
                clear hK K
                refine Leg.QW.want (by kernel_rfl) (fun K hK => ?_)
                go_big_quiet_op
                refine hK _ ?_
                clear hK K
                refine Leg.QW.want (by kernel_rfl) (fun K hK => ?_)
                go_big_quiet_op
                refine hK _ ?_
                clear hK K
                refine Leg.QW.want (by kernel_rfl) (fun K hK => ?_)
                go_big_quiet_op
                refine hK _ ?_
                clear hK K
                refine Leg.QW.nil ?_
                clear gz0 gd4 gz2
                intro _ hw'
                obtain ⟨⟨dq, osq⟩, hw''⟩ := hw'
                subst hw''
                have hw9 := hw8.trans ((below_regrown w8 dq osq).mono hw8.size)
                generalize grow (redrawn w8 dq) osq = w9 at hw9 ⊢
                go_wp2
                refine bodyPost_ret (v := .tuple #[.int .i64 sf, .int .i64 (up - 1), .bool true]) (by simp [results, Tryz.results20, go_sem]) rfl ⟨by rw [HM.out], HB4.out.trans (hw9.mono HB4.out.size)⟩
            · have HM : Hid (overL sx y up L = overL sx y up (L.drop (k + 1))) := HMISS.out (fun h => hy h.2)
              have hyb : (sy == y) = false := by simp [hy]
              clear HMISS HHIT HBY HNX HND
              go_wp2_with fail
              have gz0 := cell_regrown z0
              have gz2 := cell_regrown z2
              have gw1' := cell_regrown w1'
              have gd0 := cell_regrown d0
              have gd1 := cell_regrown d1
              have gd4 := cell_regrown d4
              have gd5 := cell_regrown d5
              have gpc1 := cell_regrown pc1
              have gpc2 := cell_regrown pc2
              clear z0 z2 w1' d0 d1 d4 d5 pc1 pc2
              refine Leg.wp_region_qw (by kernel_rfl) (by kernel_rfl) ?_
              refine Leg.QW.want (by kernel_rfl) (fun K hK => ?_)
              go_big_quiet_op
              refine hK _ ?_
              clear hK K
              refine Leg.QW.want (by kernel_rfl) (fun K hK => ?_)
              go_big_quiet_op
              refine hK _ ?_
              clear hK K
              refine Leg.QW.want (by kernel_rfl) (fun K hK => ?_)
              go_big_quiet_op
              refine hK _ ?_
              clear hK K
              refine Leg.QW.want (by kernel_rfl) (fun K hK => ?_)
              go_big_quiet_op
              refine hK _ ?_
              clear hK K
              refine Leg.QW.want (by kernel_rfl) (fun K hK => ?_)
              go_big_quiet_op
              refine hK _ ?_
              clear hK K
              refine Leg.QW.want (by kernel_rfl) (fun K hK => ?_)
              go_big_quiet_op
              refine hK _ ?_
              clear hK K
              refine Leg.QW.want (by kernel_rfl) (fun K hK => ?_)
              go_big_quiet_op
              refine hK _ ?_
              clear hK K
              refine Leg.QW.want (by kernel_rfl) (fun K hK => ?_)
              go_big_quiet_op
              refine hK _ ?_
              clear hK K
              refine Leg.QW.want (by kernel_rfl) (fun K hK => ?_)
              go_big_quiet_op
              refine hK _ ?_
              clear hK K
              refine Leg.QW.want (by kernel_rfl) (fun K hK => ?_)
              go_big_quiet_op
              refine hK _ ?_
              clear hK K
              refine Leg.QW.want (by kernel_rfl) (fun K hK => ?_)
              go_big_quiet_op
              refine hK _ ?_
              clear hK K
              refine Leg.QW.want (by kernel_rfl) (fun K hK => ?_)
              go_big_quiet_op
              refine hK _ ?_
              clear hK K
              refine Leg.QW.want (by kernel_rfl) (fun K hK => ?_)
              go_big_quiet_op
              refine hK _ ?_
              clear hK K
              refine Leg.QW.want (by kernel_rfl) (fun K hK => ?_)
              go_big_quiet_op
              refine hK _ ?_
              clear hK K
              refine Leg.QW.want (by kernel_rfl) (fun K hK => ?_)
              go_big_quiet_op
              refine hK _ ?_
              clear hK K
              refine Leg.QW.want (by kernel_rfl) (fun K hK => ?_)
              go_big_quiet_op
              refine hK _ ?_
              clear hK K
              refine Leg.QW.want (by kernel_rfl) (fun K hK => ?_)
              go_big_quiet_op
              refine hK _ ?_
              clear hK K
              refine Leg.QW.want (by kernel_rfl) (fun K hK => ?_)
              go_big_quiet_op
              refine hK _ ?_
              clear hK K
              refine Leg.QW.want (by kernel_rfl) (fun K hK => ?_)
              go_big_quiet_op
              refine hK _ ?_
              clear hK K
              refine Leg.QW.want (by kernel_rfl) (fun K hK => ?_)
              go_big_quiet_op
              refine hK _ ?_
              clear hK K
              refine Leg.QW.want (by kernel_rfl) (fun K hK => ?_)
              go_big_quiet_op
              refine hK _ ?_
              clear hK K
              refine Leg.QW.want (by kernel_rfl) (fun K hK => ?_)
              go_big_quiet_op
              refine hK _ ?_
              clear hK K
              refine Leg.QW.want (by kernel_rfl) (fun K hK => ?_)
              go_big_quiet_op
              refine hK _ ?_
              clear hK K
              refine Leg.QW.want (by kernel_rfl) (fun K hK => ?_)
              go_big_quiet_op
              refine hK _ ?_
              clear hK K
              refine Leg.QW.want (by kernel_rfl) (fun K hK => ?_)
              go_big_quiet_op
              refine hK _ ?_
              clear hK K
              refine Leg.QW.want (by kernel_rfl) (fun K hK => ?_)
              go_big_quiet_op
              refine hK _ ?_
              clear hK K
              refine Leg.QW.want (by kernel_rfl) (fun K hK => ?_)
              go_big_quiet_op
              refine hK _ ?_
              clear hK K
              refine Leg.QW.want (by kernel_rfl) (fun K hK => ?_)
              go_big_quiet_op
              refine hK _ ?_
              clear hK K
              refine Leg.QW.want (by kernel_rfl) (fun K hK => ?_)
              go_big_quiet_op
              refine hK _ ?_
              clear hK K
              refine Leg.QW.want (by kernel_rfl) (fun K hK => ?_)
              go_big_quiet_op
              refine hK _ ?_
              clear hK K
              refine Leg.QW.nil ?_
              clear gz0 gz2 gw1' gd0 gd1 gd4 gd5 gpc1 gpc2
              intro _ hw'
              obtain ⟨⟨dq, osq⟩, hw''⟩ := hw'
              subst hw''
              have hw8 := hB.trans ((below_regrown wr dq osq).mono hB.size)
              generalize grow (redrawn wr dq) osq = w8 at hw8 ⊢
              have z0 := (HPB4.below hw8 HPl) 0
              simp at z0
              have hz8 := hw8.size
              have hPl8 : w1.heap.size < w8.heap.size := by omega
              clear HPB4 HBB4 HA4 c4
              go_wp2
              go_roundw
              case rel => exact ⟨k + 1, by omega, by go_num, HM, hw8⟩
              case measure => simp [intOf]; omega
          · have HM : Hid (overL x y up L = overL x y up (L.drop (k + 1))) := HMISS.out (fun h => hx h.1)
            have hxb : (sx == x) = false := by simp [hx]
            clear HMISS HHIT HBY HNX HND
            go_wp2_with fail
            have gz0 := cell_regrown z0
            have gz2 := cell_regrown z2
            have gw1' := cell_regrown w1'
            have gd0 := cell_regrown d0
            have gd1 := cell_regrown d1
            have gd4 := cell_regrown d4
            have gd5 := cell_regrown d5
            have gpc1 := cell_regrown pc1
            have gpc2 := cell_regrown pc2
            clear z0 z2 w1' d0 d1 d4 d5 pc1 pc2
            refine Leg.wp_region_qw (by kernel_rfl) (by kernel_rfl) ?_
            refine Leg.QW.want (by kernel_rfl) (fun K hK => ?_)
            go_big_quiet_op
            refine hK _ ?_
            clear hK K
            refine Leg.QW.want (by kernel_rfl) (fun K hK => ?_)
            go_big_quiet_op
            refine hK _ ?_
            clear hK K
            refine Leg.QW.want (by kernel_rfl) (fun K hK => ?_)
            go_big_quiet_op
            refine hK _ ?_
            clear hK K
            refine Leg.QW.want (by kernel_rfl) (fun K hK => ?_)
            go_big_quiet_op
            refine hK _ ?_
            clear hK K
            refine Leg.QW.want (by kernel_rfl) (fun K hK => ?_)
            go_big_quiet_op
            refine hK _ ?_
            clear hK K
            refine Leg.QW.want (by kernel_rfl) (fun K hK => ?_)
            go_big_quiet_op
            refine hK _ ?_
            clear hK K
            refine Leg.QW.want (by kernel_rfl) (fun K hK => ?_)
            go_big_quiet_op
            refine hK _ ?_
            clear hK K
            refine Leg.QW.want (by kernel_rfl) (fun K hK => ?_)
            go_big_quiet_op
            refine hK _ ?_
            clear hK K
            refine Leg.QW.want (by kernel_rfl) (fun K hK => ?_)
            go_big_quiet_op
            refine hK _ ?_
            clear hK K
            refine Leg.QW.want (by kernel_rfl) (fun K hK => ?_)
            go_big_quiet_op
            refine hK _ ?_
            clear hK K
            refine Leg.QW.want (by kernel_rfl) (fun K hK => ?_)
            go_big_quiet_op
            refine hK _ ?_
            clear hK K
            refine Leg.QW.want (by kernel_rfl) (fun K hK => ?_)
            go_big_quiet_op
            refine hK _ ?_
            clear hK K
            refine Leg.QW.want (by kernel_rfl) (fun K hK => ?_)
            go_big_quiet_op
            refine hK _ ?_
            clear hK K
            refine Leg.QW.want (by kernel_rfl) (fun K hK => ?_)
            go_big_quiet_op
            refine hK _ ?_
            clear hK K
            refine Leg.QW.want (by kernel_rfl) (fun K hK => ?_)
            go_big_quiet_op
            refine hK _ ?_
            clear hK K
            refine Leg.QW.skip (by kernel_rfl) ?_
            refine Leg.QW.skip (by kernel_rfl) ?_
            refine Leg.QW.skip (by kernel_rfl) ?_
            refine Leg.QW.skip (by kernel_rfl) ?_
            refine Leg.QW.skip (by kernel_rfl) ?_
            refine Leg.QW.skip (by kernel_rfl) ?_
            refine Leg.QW.skip (by kernel_rfl) ?_
            refine Leg.QW.skip (by kernel_rfl) ?_
            refine Leg.QW.skip (by kernel_rfl) ?_
            refine Leg.QW.skip (by kernel_rfl) ?_
            refine Leg.QW.skip (by kernel_rfl) ?_
            refine Leg.QW.skip (by kernel_rfl) ?_
            refine Leg.QW.skip (by kernel_rfl) ?_
            refine Leg.QW.skip (by kernel_rfl) ?_
            refine Leg.QW.want (by kernel_rfl) (fun K hK => ?_)
            go_simp
            refine hK _ ?_
            clear hK K
            refine Leg.QW.nil ?_
            clear gz0 gz2 gw1' gd0 gd1 gd4 gd5 gpc1 gpc2
            intro _ hw'
            obtain ⟨⟨dq, osq⟩, hw''⟩ := hw'
            subst hw''
            have hw8 := hB.trans ((below_regrown wr dq osq).mono hB.size)
            generalize grow (redrawn wr dq) osq = w8 at hw8 ⊢
            have z0 := (HPB4.below hw8 HPl) 0
            simp at z0
            have hz8 := hw8.size
            have hPl8 : w1.heap.size < w8.heap.size := by omega
            clear HPB4 HBB4 HA4 c4
            go_wp2
            go_roundw
            case rel => exact ⟨k + 1, by omega, by go_num, HM, hw8⟩
            case measure => simp [intOf]; omega
        · have e : k = L.length := by omega
          subst e
          have hkI : ¬ (L.length : Int) < (L.length : Int) := by omega
          have HF : Hid (overF bk nm pt = (0, 0, false)) := HOV.out.trans (hpre.out.trans (overL_end x y up L))
          have hBL := HB4.out.trans (hB.mono HB4.out.size)
          clear hpre hB HA4 HPB4 HBB4 HOV HR1 HR2
          go_wp2
          refine bodyPost_ret (v := .tuple #[.int .i64 0, .int .i64 0, .bool false]) (by simp [results, Tryz.results20, go_sem]) rfl ⟨by rw [HF.out], hBL⟩
    · have HF : Hid (overF bk nm pt = (0, 0, false)) := HNO.out (fun h => hc h.1)
      have hc0 : (code != 0) = true := by simp [hc]
      clear HYES HNO HR1 HR2 HPB4 HBB4 HA4 hn hnm
      go_wp2
      refine bodyPost_ret (v := .tuple #[.int .i64 0, .int .i64 0, .bool false]) (by simp [results, Tryz.results20, go_sem]) rfl ⟨by rw [HF.out], B4⟩

end Pth
end Go.Proofs.YtgnjkpmbppmoeaaGreat
