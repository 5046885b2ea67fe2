/- DERIVED. impl.PlanEntry.change, impl.planEntryOk: its walk (written by wip/tools/mk_bi.py). -/
import Derived.Test.YtgnjkpmbppmoeaaGreatKGDb
import Derived.Test.YtgnjkpmbppmoeaaGreatKPgI3
namespace Go.Proofs.YtgnjkpmbppmoeaaGreat
open Go.RowKit Go.Sort
set_option linter.unusedSimpArgs false
set_option linter.unusedVariables false

theorem EntOk.of (x : DPlanBase) (n : ByteArray) (fs : List DPlanField) (h0 : 0 < fs.length) (h : FldTo x n fs fs.length) : EntOk x (n, fs) := ⟨(h 0 h0 h0).1.1, h0, h⟩

set_option maxRecDepth 100000 in
set_option maxHeartbeats 2000000 in
theorem eChange (n : ByteArray) (s : Value) (wh nu : Int) (v : ByteArray) (w : World) :
    Calls Tryz.prog 102 #[.agg #[.string n, s], .agg #[.int .i64 wh, .int .i64 nu, .string v]] w fun r w' => r = .returned (.agg #[.string n, .int .i64 wh, .int .i64 nu, .string v]) ∧ Below w.heap.size w w' := by
  go_enter Tryz.func102, Tryz.ntmps102
  go_wp2
  exact bodyPost_ret (v := .agg #[.string n, .int .i64 wh, .int .i64 nu, .string v]) (by simp [results, Tryz.results102, go_sem]) rfl ⟨rfl, by repeat (first | exact Below.refl _ _ | refine Below.alloc ?_ (by simp; try omega) _)⟩

set_option maxRecDepth 100000 in
set_option maxHeartbeats 8000000 in
theorem iEntry (x : DPlanBase) (ao0 : Option Addr) (cap0 : Nat) (ao1 : Option Addr) (cap1 : Nat) (e : DPlanEntry) (fo : Option Addr) (fc : Nat) (w : World) (h : BaseAt w x ao0 cap0 ao1 cap1) (hx : BaseOk x) (hn : e.1.size ≤ maxLen) (hf : SliceAt vPlanField (old w) w fo fc e.2) (hs : wPlanFieldS e.2 ≤ 1048576) :
    Calls Tryz.prog 66 #[.agg #[.slice ao0 x.1.length cap0, .slice ao1 x.2.length cap1], .agg #[.string e.1, .slice fo e.2.length fc]] w fun r w' => r = .returned (.bool (pb (EntOk x e))) ∧ Below w.heap.size w w' := by
  obtain ⟨n, fs⟩ := e
  simp only at *
  have hm : fs.length ≤ 9223372036854775807 := Nat.le_trans hf.1 hf.2.1
  have hb0 : Below w.heap.size w ((w.alloc (.cells #[.slice ao0 x.1.length cap0, .slice ao1 x.2.length cap1] 40)).alloc (.cells #[.string n, .slice fo fs.length fc] 67)) := ((Below.refl _ _).alloc (Nat.le_refl _) _).alloc (by simp) _
  have HB0 : BxC w.heap.size #[.slice ao0 x.1.length cap0, .slice ao1 x.2.length cap1] ((w.alloc (.cells #[.slice ao0 x.1.length cap0, .slice ao1 x.2.length cap1] 40)).alloc (.cells #[.string n, .slice fo fs.length fc] 67)) := (BxC.new w _ _).below ((Below.refl (w.heap.size + 1) _).alloc (by simp) _) (by omega)
  have HC0 := BxC.new (w.alloc (.cells #[.slice ao0 x.1.length cap0, .slice ao1 x.2.length cap1] 40)) #[.string n, .slice fo fs.length fc] 67
  rw [World.size_alloc] at HC0
  have hz0 : ((w.alloc (.cells #[.slice ao0 x.1.length cap0, .slice ao1 x.2.length cap1] 40)).alloc (.cells #[.string n, .slice fo fs.length fc] 67)).heap.size = w.heap.size + 2 := by simp
  go_enter Tryz.func66, Tryz.ntmps66
  go_wp2
  go_loopw [10] (fun i wr => ∃ k : Nat, k ≤ fs.length ∧ i = .int .i64 k ∧ Hid (FldTo x n fs k) ∧ Below (w.heap.size + 2) ((w.alloc (.cells #[.slice ao0 x.1.length cap0, .slice ao1 x.2.length cap1] 40)).alloc (.cells #[.string n, .slice fo fs.length fc] 67)) wr) (fun i _ => fs.length - (intOf i).toNat)
  case atStart => exact ⟨0, Nat.zero_le _, rfl, FldTo.zero, (Below.refl _ _)⟩
  case round =>
    obtain ⟨k, hk, rfl, hpre, hbel⟩ := hrel
    have hB := hb0.trans (hbel.mono (by omega))
    have HB := HB0.below hbel (by omega)
    have HC := HC0.below hbel (by omega)
    have hbs : w.heap.size + 2 ≤ wr.heap.size := by have := hbel.size; rw [hz0] at this; exact this
    have hsz : w.heap.size + 1 < wr.heap.size := by omega
    have z1 := HC 1
    simp at z1
    by_cases hlt : k < fs.length
    · have hk1 : k - 1 < fs.length := by omega
      have hv := fld_small hs hlt
      obtain ⟨b, off, rfl, hok, c0, c1, c2, q0, _, _⟩ := elem_PlanField hf hlt
      have f0 := (hB.cell (p := ⟨b, off + k * 3, none⟩) hok).trans c0
      have f1 := (hB.cell (p := ⟨b, off + k * 3 + 1, none⟩) hok).trans c1
      have f2 := (hB.cell (p := ⟨b, off + k * 3 + 2, none⟩) hok).trans c2
      clear c0 c1 c2
      have hok : b < w.heap.size := hok
      have hkI : (k : Int) < (fs.length : Int) := by omega
      obtain ⟨wh, nu, v, hcur⟩ : ∃ a b c, fs[k]'hlt = (a, b, c) := ⟨_, _, _, rfl⟩
      have HNO : Hid (¬ ChangeOk x (n, wh, nu, v) → pb (EntOk x (n, fs)) = false) := fun h1 => pb_no (fun h2 => h1 (hcur ▸ (h2.2.2 k hlt hlt).1))
      have HYES : Hid (ChangeOk x (n, wh, nu, v) → (∀ h0 : 0 < k, (fs[k - 1]'hk1).1 < wh) → FldTo x n fs (k + 1)) := fun h1 h2 => hpre.out.next hlt (hcur ▸ h1) (fun h0 => by have := h2 h0; rw [hcur]; exact this)
      have HASC : Hid (∀ h0 : 0 < k, ¬ (fs[k - 1]'hk1).1 < wh → pb (EntOk x (n, fs)) = false) := fun h0 h1 => pb_no (fun h2 => h1 (by have := (h2.2.2 k hlt hlt).2 h0; rw [hcur] at this; exact this))
      rw [hcur] at f0 f1 f2 q0 hv
      simp only at f0 f1 f2 q0 hv
      clear hcur hpre
      by_cases hok0 : ChangeOk x (n, wh, nu, v)
      · have hok1 := pb_yes hok0
        by_cases hk0 : 0 < k
        · obtain ⟨b', off', hbo, _, d0, d1, d2, _⟩ := elem_PlanField hf hk1
          cases hbo
          have p0 := (hB.cell (p := ⟨b, off + (k - 1) * 3, none⟩) hok).trans d0
          clear d0 d1 d2
          have hd0 : decide ((0 : Int) < (k : Int)) = true := by simp; omega
          have hkI1 : (k : Int) - 1 < (fs.length : Int) := by omega
          have hkN : ((k : Int) - 1).toNat = k - 1 := by omega
          have hk1I : (1 : Int) ≤ (k : Int) := by omega
          have hkW : IntKind.i64.wrap ((k : Int) - 1) = (k : Int) - 1 := by rw [IntKind.wrap_i64]; all_goals omega
          by_cases hasc : (fs[k - 1]'hk1).1 < wh
          · have HN1 : Hid (FldTo x n fs (k + 1)) := HYES.out hok0 (fun _ => hasc)
            clear HNO HYES HASC hok0
            generalize (fs[k - 1]'hk1).1 = pw at p0 hasc
            have hge : decide (wh ≤ pw) = false := by simp; omega
            clear hasc
            go_wp2_with fail
            have hbW : Below wr.heap.size wr (wr.alloc (.cells #[.int .i64 wh, .int .i64 nu, .string v] 120)) := (Below.refl _ _).alloc (Nat.le_refl _) _
            have hbel1 := hbel.trans (hbW.mono hbs)
            have hB1 := hB.trans (hbW.mono (by omega))
            have hbs1 : w.heap.size + 2 ≤ (wr.alloc (.cells #[.int .i64 wh, .int .i64 nu, .string v] 120)).heap.size := by simp; omega
            have HF0 := BxC.new wr #[.int .i64 wh, .int .i64 nu, .string v] 120
            have v0 := HF0 0
            have v1 := HF0 1
            have v2 := HF0 2
            have r0 := (HB.below hbW (by omega)) 0
            have r1 := (HB.below hbW (by omega)) 1
            have r2 := (HC.below hbW (by omega)) 0
            have r3 := (HC.below hbW (by omega)) 1
            have r4 := (hbW.cell (p := ⟨b, off + (k - 1) * 3, none⟩) (Nat.lt_of_lt_of_le hok (by omega))).trans p0
            clear p0
            clear HF0 hbW f0 f1 f2 z1
            generalize (wr.alloc (.cells #[.int .i64 wh, .int .i64 nu, .string v] 120)) = wr1 at *
            have cA : ∀ dd os, Calls Tryz.prog 101 #[.agg #[.slice ao0 x.1.length cap0, .slice ao1 x.2.length cap1], .agg #[.string n, .int .i64 wh, .int .i64 nu, .string v]] (grow (redrawn wr1 dd) os) (fun e w'' => e = .returned (.bool true) ∧ ∃ p : Regrown, w'' = grow (redrawn wr1 p.d) p.os) := fun dd os => Calls.regrown_of (by rw [← hok1]; exact iSays x _ _ _ _ (n, wh, nu, v) _ (h.later (hB1.trans ((below_regrown wr1 dd os).mono hB1.size))) hx hn q0 hv)
            have cB : ∀ dd os, Calls Tryz.prog 102 #[.agg #[.string n, .slice (some ⟨b, off, none⟩) fs.length fc], .agg #[.int .i64 wh, .int .i64 nu, .string v]] (grow (redrawn wr1 dd) os) (fun e w'' => e = .returned (.agg #[.string n, .int .i64 wh, .int .i64 nu, .string v]) ∧ ∃ p : Regrown, w'' = grow (redrawn wr1 p.d) p.os) := fun dd os => Calls.regrown_of (eChange n _ wh nu v _)
            have g0 := cell_regrown v0
            have g1 := cell_regrown v1
            have g2 := cell_regrown v2
            have t0 := cell_regrown r0
            have t1 := cell_regrown r1
            have t2 := cell_regrown r2
            have t3 := cell_regrown r3
            have t4 := cell_regrown r4
            clear v0 v1 v2 r0 r1 r2 r3 r4 hok1
            refine Leg.wp_region_qw (by kernel_rfl) (by kernel_rfl) ?_
            refine Leg.QW.want (by kernel_rfl) (fun K hK => ?_)
            go_big_quiet_op
            refine hK _ ?_
            clear hK K
            refine Leg.QW.want (by kernel_rfl) (fun K hK => ?_)
            go_big_quiet_op
            refine hK _ ?_
            clear hK K
            refine Leg.QW.want (by kernel_rfl) (fun K hK => ?_)
            go_big_quiet_op
            refine hK _ ?_
            clear hK K
            refine Leg.QW.want (by kernel_rfl) (fun K hK => ?_)
            go_big_quiet_op
            refine ⟨_, fun _ => cB _ _, hK _ ?_⟩
            clear hK K
            refine Leg.QW.want (by kernel_rfl) (fun K hK => ?_)
            go_big_quiet_op
            refine ⟨_, fun _ => cA _ _, hK _ ?_⟩
            clear hK K
            refine Leg.QW.want (by kernel_rfl) (fun K hK => ?_)
            go_big_quiet_op
            refine hK _ ?_
            clear hK K
            refine Leg.QW.want (by kernel_rfl) (fun K hK => ?_)
            go_big_quiet_op
            refine hK _ ?_
            clear hK K
            refine Leg.QW.want (by kernel_rfl) (fun K hK => ?_)
            go_big_quiet_op
            refine hK _ ?_
            clear hK K
            refine Leg.QW.want (by kernel_rfl) (fun K hK => ?_)
            go_big_quiet_op
            refine hK _ ?_
            clear hK K
            refine Leg.QW.want (by kernel_rfl) (fun K hK => ?_)
            go_big_quiet_op
            refine hK _ ?_
            clear hK K
            refine Leg.QW.want (by kernel_rfl) (fun K hK => ?_)
            go_big_quiet_op
            refine hK _ ?_
            clear hK K
            refine Leg.QW.want (by kernel_rfl) (fun K hK => ?_)
            go_big_quiet_op
            refine hK _ ?_
            clear hK K
            refine Leg.QW.want (by kernel_rfl) (fun K hK => ?_)
            go_big_quiet_op
            refine hK _ ?_
            clear hK K
            refine Leg.QW.want (by kernel_rfl) (fun K hK => ?_)
            go_big_quiet_op
            refine hK _ ?_
            clear hK K
            refine Leg.QW.want (by kernel_rfl) (fun K hK => ?_)
            go_big_quiet_op
            refine hK _ ?_
            clear hK K
            refine Leg.QW.want (by kernel_rfl) (fun K hK => ?_)
            go_big_quiet_op
            refine hK _ ?_
            clear hK K
            refine Leg.QW.want (by kernel_rfl) (fun K hK => ?_)
            go_big_quiet_op
            refine hK _ ?_
            clear hK K
            refine Leg.QW.want (by kernel_rfl) (fun K hK => ?_)
            go_big_quiet_op
            refine hK _ ?_
            clear hK K
            refine Leg.QW.want (by kernel_rfl) (fun K hK => ?_)
            go_big_quiet_op
            refine hK _ ?_
            clear hK K
            refine Leg.QW.want (by kernel_rfl) (fun K hK => ?_)
            go_big_quiet_op
            refine hK _ ?_
            clear hK K
            refine Leg.QW.want (by kernel_rfl) (fun K hK => ?_)
            go_big_quiet_op
            refine hK _ ?_
            clear hK K
            refine Leg.QW.want (by kernel_rfl) (fun K hK => ?_)
            go_big_quiet_op
            refine hK _ ?_
            clear hK K
            refine Leg.QW.nil ?_
            intro _ hw'
            obtain ⟨⟨dq, osq⟩, hw''⟩ := hw'
            subst hw''
            have hbq := hbel1.trans ((below_regrown wr1 dq osq).mono hbs1)
            clear hbel hbel1 hB hB1 hbs hbs1 cA cB g0 g1 g2 t0 t1 t2 t3 t4 HB HC
            generalize grow (redrawn wr1 dq) osq = w9 at hbq ⊢
            have hxq0 := HC0.below hbq (by omega) 0
            have hxq1 := HC0.below hbq (by omega) 1
            go_wp2
            go_roundw
            case rel => exact ⟨k + 1, by omega, by go_num, HN1, hbq⟩
            case measure => simp [intOf]; omega
          · have HF : Hid (pb (EntOk x (n, fs)) = false) := HASC.out hk0 hasc
            clear HNO HYES HASC hok0
            generalize (fs[k - 1]'hk1).1 = pw at p0 hasc
            have hge : decide (wh ≤ pw) = true := by simp; omega
            clear hasc
            go_wp2_with fail
            have hbW : Below wr.heap.size wr (wr.alloc (.cells #[.int .i64 wh, .int .i64 nu, .string v] 120)) := (Below.refl _ _).alloc (Nat.le_refl _) _
            have hbel1 := hbel.trans (hbW.mono hbs)
            have hB1 := hB.trans (hbW.mono (by omega))
            have hbs1 : w.heap.size + 2 ≤ (wr.alloc (.cells #[.int .i64 wh, .int .i64 nu, .string v] 120)).heap.size := by simp; omega
            have HF0 := BxC.new wr #[.int .i64 wh, .int .i64 nu, .string v] 120
            have v0 := HF0 0
            have v1 := HF0 1
            have v2 := HF0 2
            have r0 := (HB.below hbW (by omega)) 0
            have r1 := (HB.below hbW (by omega)) 1
            have r2 := (HC.below hbW (by omega)) 0
            have r3 := (HC.below hbW (by omega)) 1
            have r4 := (hbW.cell (p := ⟨b, off + (k - 1) * 3, none⟩) (Nat.lt_of_lt_of_le hok (by omega))).trans p0
            clear p0
            clear HF0 hbW f0 f1 f2 z1
            generalize (wr.alloc (.cells #[.int .i64 wh, .int .i64 nu, .string v] 120)) = wr1 at *
            have cA : ∀ dd os, Calls Tryz.prog 101 #[.agg #[.slice ao0 x.1.length cap0, .slice ao1 x.2.length cap1], .agg #[.string n, .int .i64 wh, .int .i64 nu, .string v]] (grow (redrawn wr1 dd) os) (fun e w'' => e = .returned (.bool true) ∧ ∃ p : Regrown, w'' = grow (redrawn wr1 p.d) p.os) := fun dd os => Calls.regrown_of (by rw [← hok1]; exact iSays x _ _ _ _ (n, wh, nu, v) _ (h.later (hB1.trans ((below_regrown wr1 dd os).mono hB1.size))) hx hn q0 hv)
            have cB : ∀ dd os, Calls Tryz.prog 102 #[.agg #[.string n, .slice (some ⟨b, off, none⟩) fs.length fc], .agg #[.int .i64 wh, .int .i64 nu, .string v]] (grow (redrawn wr1 dd) os) (fun e w'' => e = .returned (.agg #[.string n, .int .i64 wh, .int .i64 nu, .string v]) ∧ ∃ p : Regrown, w'' = grow (redrawn wr1 p.d) p.os) := fun dd os => Calls.regrown_of (eChange n _ wh nu v _)
            have g0 := cell_regrown v0
            have g1 := cell_regrown v1
            have g2 := cell_regrown v2
            have t0 := cell_regrown r0
            have t1 := cell_regrown r1
            have t2 := cell_regrown r2
            have t3 := cell_regrown r3
            have t4 := cell_regrown r4
            clear v0 v1 v2 r0 r1 r2 r3 r4 hok1
            refine Leg.wp_region_qw (by kernel_rfl) (by kernel_rfl) ?_
            refine Leg.QW.want (by kernel_rfl) (fun K hK => ?_)
            go_big_quiet_op
            refine hK _ ?_
            clear hK K
            refine Leg.QW.want (by kernel_rfl) (fun K hK => ?_)
            go_big_quiet_op
            refine hK _ ?_
            clear hK K
            refine Leg.QW.want (by kernel_rfl) (fun K hK => ?_)
            go_big_quiet_op
            refine hK _ ?_
            clear hK K
            refine Leg.QW.want (by kernel_rfl) (fun K hK => ?_)
            go_big_quiet_op
            refine ⟨_, fun _ => cB _ _, hK _ ?_⟩
            clear hK K
            refine Leg.QW.want (by kernel_rfl) (fun K hK => ?_)
            go_big_quiet_op
            refine ⟨_, fun _ => cA _ _, hK _ ?_⟩
            clear hK K
            refine Leg.QW.want (by kernel_rfl) (fun K hK => ?_)
            go_big_quiet_op
            refine hK _ ?_
            clear hK K
            refine Leg.QW.want (by kernel_rfl) (fun K hK => ?_)
            go_big_quiet_op
            refine hK _ ?_
            clear hK K
            refine Leg.QW.want (by kernel_rfl) (fun K hK => ?_)
            go_big_quiet_op
            refine hK _ ?_
            clear hK K
            refine Leg.QW.want (by kernel_rfl) (fun K hK => ?_)
            go_big_quiet_op
            refine hK _ ?_
            clear hK K
            refine Leg.QW.want (by kernel_rfl) (fun K hK => ?_)
            go_big_quiet_op
            refine hK _ ?_
            clear hK K
            refine Leg.QW.want (by kernel_rfl) (fun K hK => ?_)
            go_big_quiet_op
            refine hK _ ?_
            clear hK K
            refine Leg.QW.want (by kernel_rfl) (fun K hK => ?_)
            go_big_quiet_op
            refine hK _ ?_
            clear hK K
            refine Leg.QW.want (by kernel_rfl) (fun K hK => ?_)
            go_big_quiet_op
            refine hK _ ?_
            clear hK K
            refine Leg.QW.want (by kernel_rfl) (fun K hK => ?_)
            go_big_quiet_op
            refine hK _ ?_
            clear hK K
            refine Leg.QW.want (by kernel_rfl) (fun K hK => ?_)
            go_big_quiet_op
            refine hK _ ?_
            clear hK K
            refine Leg.QW.want (by kernel_rfl) (fun K hK => ?_)
            go_big_quiet_op
            refine hK _ ?_
            clear hK K
            refine Leg.QW.want (by kernel_rfl) (fun K hK => ?_)
            go_big_quiet_op
            refine hK _ ?_
            clear hK K
            refine Leg.QW.want (by kernel_rfl) (fun K hK => ?_)
            go_big_quiet_op
            refine hK _ ?_
            clear hK K
            refine Leg.QW.want (by kernel_rfl) (fun K hK => ?_)
            go_big_quiet_op
            refine hK _ ?_
            clear hK K
            refine Leg.QW.want (by kernel_rfl) (fun K hK => ?_)
            go_big_quiet_op
            refine hK _ ?_
            clear hK K
            refine Leg.QW.want (by kernel_rfl) (fun K hK => ?_)
            go_big_quiet_op
            refine hK _ ?_
            clear hK K
            refine Leg.QW.want (by kernel_rfl) (fun K hK => ?_)
            go_big_quiet_op
            refine hK _ ?_
            clear hK K
            refine Leg.QW.nil ?_
            intro _ hw'
            obtain ⟨⟨dq, osq⟩, hw''⟩ := hw'
            subst hw''
            have hbq := hbel1.trans ((below_regrown wr1 dq osq).mono hbs1)
            clear hbel hbel1 hB hB1 hbs hbs1 cA cB g0 g1 g2 t0 t1 t2 t3 t4 HB HC
            generalize grow (redrawn wr1 dq) osq = w9 at hbq ⊢
            have hBq := hb0.trans (hbq.mono (by omega))
            go_wp2
            go_ret
            exact ⟨by rw [HF.out]; rfl, hBq⟩
        · have hd0 : decide ((0 : Int) < (k : Int)) = false := by simp; omega
          have HN1 : Hid (FldTo x n fs (k + 1)) := HYES.out hok0 (fun h0 => absurd h0 hk0)
          clear HNO HYES HASC hok0
          go_wp2_with fail
          have hbW : Below wr.heap.size wr (wr.alloc (.cells #[.int .i64 wh, .int .i64 nu, .string v] 120)) := (Below.refl _ _).alloc (Nat.le_refl _) _
          have hbel1 := hbel.trans (hbW.mono hbs)
          have hB1 := hB.trans (hbW.mono (by omega))
          have hbs1 : w.heap.size + 2 ≤ (wr.alloc (.cells #[.int .i64 wh, .int .i64 nu, .string v] 120)).heap.size := by simp; omega
          have HF0 := BxC.new wr #[.int .i64 wh, .int .i64 nu, .string v] 120
          have v0 := HF0 0
          have v1 := HF0 1
          have v2 := HF0 2
          have r0 := (HB.below hbW (by omega)) 0
          have r1 := (HB.below hbW (by omega)) 1
          have r2 := (HC.below hbW (by omega)) 0
          have r3 := (HC.below hbW (by omega)) 1
          clear HF0 hbW f0 f1 f2 z1
          generalize (wr.alloc (.cells #[.int .i64 wh, .int .i64 nu, .string v] 120)) = wr1 at *
          have cA : ∀ dd os, Calls Tryz.prog 101 #[.agg #[.slice ao0 x.1.length cap0, .slice ao1 x.2.length cap1], .agg #[.string n, .int .i64 wh, .int .i64 nu, .string v]] (grow (redrawn wr1 dd) os) (fun e w'' => e = .returned (.bool true) ∧ ∃ p : Regrown, w'' = grow (redrawn wr1 p.d) p.os) := fun dd os => Calls.regrown_of (by rw [← hok1]; exact iSays x _ _ _ _ (n, wh, nu, v) _ (h.later (hB1.trans ((below_regrown wr1 dd os).mono hB1.size))) hx hn q0 hv)
          have cB : ∀ dd os, Calls Tryz.prog 102 #[.agg #[.string n, .slice (some ⟨b, off, none⟩) fs.length fc], .agg #[.int .i64 wh, .int .i64 nu, .string v]] (grow (redrawn wr1 dd) os) (fun e w'' => e = .returned (.agg #[.string n, .int .i64 wh, .int .i64 nu, .string v]) ∧ ∃ p : Regrown, w'' = grow (redrawn wr1 p.d) p.os) := fun dd os => Calls.regrown_of (eChange n _ wh nu v _)
          have g0 := cell_regrown v0
          have g1 := cell_regrown v1
          have g2 := cell_regrown v2
          have t0 := cell_regrown r0
          have t1 := cell_regrown r1
          have t2 := cell_regrown r2
          have t3 := cell_regrown r3
          clear v0 v1 v2 r0 r1 r2 r3 hok1
          refine Leg.wp_region_qw (by kernel_rfl) (by kernel_rfl) ?_
          refine Leg.QW.want (by kernel_rfl) (fun K hK => ?_)
          go_big_quiet_op
          refine hK _ ?_
          clear hK K
          refine Leg.QW.want (by kernel_rfl) (fun K hK => ?_)
          go_big_quiet_op
          refine hK _ ?_
          clear hK K
          refine Leg.QW.want (by kernel_rfl) (fun K hK => ?_)
          go_big_quiet_op
          refine hK _ ?_
          clear hK K
          refine Leg.QW.want (by kernel_rfl) (fun K hK => ?_)
          go_big_quiet_op
          refine ⟨_, fun _ => cB _ _, hK _ ?_⟩
          clear hK K
          refine Leg.QW.want (by kernel_rfl) (fun K hK => ?_)
          go_big_quiet_op
          refine ⟨_, fun _ => cA _ _, hK _ ?_⟩
          clear hK K
          refine Leg.QW.want (by kernel_rfl) (fun K hK => ?_)
          go_big_quiet_op
          refine hK _ ?_
          clear hK K
          refine Leg.QW.want (by kernel_rfl) (fun K hK => ?_)
          go_big_quiet_op
          refine hK _ ?_
          clear hK K
          refine Leg.QW.want (by kernel_rfl) (fun K hK => ?_)
          go_big_quiet_op
          refine hK _ ?_
          clear hK K
          refine Leg.QW.want (by kernel_rfl) (fun K hK => ?_)
          go_big_quiet_op
          refine hK _ ?_
          clear hK K
          refine Leg.QW.want (by kernel_rfl) (fun K hK => ?_)
          go_big_quiet_op
          refine hK _ ?_
          clear hK K
          refine Leg.QW.skip (by kernel_rfl) ?_
          refine Leg.QW.skip (by kernel_rfl) ?_
          refine Leg.QW.skip (by kernel_rfl) ?_
          refine Leg.QW.skip (by kernel_rfl) ?_
          refine Leg.QW.skip (by kernel_rfl) ?_
          refine Leg.QW.skip (by kernel_rfl) ?_
          refine Leg.QW.skip (by kernel_rfl) ?_
          refine Leg.QW.skip (by kernel_rfl) ?_
          refine Leg.QW.skip (by kernel_rfl) ?_
          refine Leg.QW.skip (by kernel_rfl) ?_
          refine Leg.QW.want (by kernel_rfl) (fun K hK => ?_)
          go_simp
          refine hK _ ?_
          clear hK K
          refine Leg.QW.want (by kernel_rfl) (fun K hK => ?_)
          go_big_quiet_op
          refine hK _ ?_
          clear hK K
          refine Leg.QW.nil ?_
          intro _ hw'
          obtain ⟨⟨dq, osq⟩, hw''⟩ := hw'
          subst hw''
          have hbq := hbel1.trans ((below_regrown wr1 dq osq).mono hbs1)
          clear hbel hbel1 hB hB1 hbs hbs1 cA cB g0 g1 g2 t0 t1 t2 t3 HB HC
          generalize grow (redrawn wr1 dq) osq = w9 at hbq ⊢
          have hxq0 := HC0.below hbq (by omega) 0
          have hxq1 := HC0.below hbq (by omega) 1
          go_wp2
          go_roundw
          case rel => exact ⟨k + 1, by omega, by go_num, HN1, hbq⟩
          case measure => simp [intOf]; omega
      · have hok1 := pb_no hok0
        have HF : Hid (pb (EntOk x (n, fs)) = false) := HNO.out hok0
        clear HNO HYES HASC hok0
        go_wp2_with fail
        have hbW : Below wr.heap.size wr (wr.alloc (.cells #[.int .i64 wh, .int .i64 nu, .string v] 120)) := (Below.refl _ _).alloc (Nat.le_refl _) _
        have hbel1 := hbel.trans (hbW.mono hbs)
        have hB1 := hB.trans (hbW.mono (by omega))
        have hbs1 : w.heap.size + 2 ≤ (wr.alloc (.cells #[.int .i64 wh, .int .i64 nu, .string v] 120)).heap.size := by simp; omega
        have HF0 := BxC.new wr #[.int .i64 wh, .int .i64 nu, .string v] 120
        have v0 := HF0 0
        have v1 := HF0 1
        have v2 := HF0 2
        have r0 := (HB.below hbW (by omega)) 0
        have r1 := (HB.below hbW (by omega)) 1
        have r2 := (HC.below hbW (by omega)) 0
        have r3 := (HC.below hbW (by omega)) 1
        clear HF0 hbW f0 f1 f2 z1
        generalize (wr.alloc (.cells #[.int .i64 wh, .int .i64 nu, .string v] 120)) = wr1 at *
        have cA : ∀ dd os, Calls Tryz.prog 101 #[.agg #[.slice ao0 x.1.length cap0, .slice ao1 x.2.length cap1], .agg #[.string n, .int .i64 wh, .int .i64 nu, .string v]] (grow (redrawn wr1 dd) os) (fun e w'' => e = .returned (.bool false) ∧ ∃ p : Regrown, w'' = grow (redrawn wr1 p.d) p.os) := fun dd os => Calls.regrown_of (by rw [← hok1]; exact iSays x _ _ _ _ (n, wh, nu, v) _ (h.later (hB1.trans ((below_regrown wr1 dd os).mono hB1.size))) hx hn q0 hv)
        have cB : ∀ dd os, Calls Tryz.prog 102 #[.agg #[.string n, .slice (some ⟨b, off, none⟩) fs.length fc], .agg #[.int .i64 wh, .int .i64 nu, .string v]] (grow (redrawn wr1 dd) os) (fun e w'' => e = .returned (.agg #[.string n, .int .i64 wh, .int .i64 nu, .string v]) ∧ ∃ p : Regrown, w'' = grow (redrawn wr1 p.d) p.os) := fun dd os => Calls.regrown_of (eChange n _ wh nu v _)
        have g0 := cell_regrown v0
        have g1 := cell_regrown v1
        have g2 := cell_regrown v2
        have t0 := cell_regrown r0
        have t1 := cell_regrown r1
        have t2 := cell_regrown r2
        have t3 := cell_regrown r3
        clear v0 v1 v2 r0 r1 r2 r3 hok1
        refine Leg.wp_region_qw (by kernel_rfl) (by kernel_rfl) ?_
        refine Leg.QW.want (by kernel_rfl) (fun K hK => ?_)
        go_big_quiet_op
        refine hK _ ?_
        clear hK K
        refine Leg.QW.want (by kernel_rfl) (fun K hK => ?_)
        go_big_quiet_op
        refine hK _ ?_
        clear hK K
        refine Leg.QW.want (by kernel_rfl) (fun K hK => ?_)
        go_big_quiet_op
        refine hK _ ?_
        clear hK K
        refine Leg.QW.want (by kernel_rfl) (fun K hK => ?_)
        go_big_quiet_op
        refine ⟨_, fun _ => cB _ _, hK _ ?_⟩
        clear hK K
        refine Leg.QW.want (by kernel_rfl) (fun K hK => ?_)
        go_big_quiet_op
        refine ⟨_, fun _ => cA _ _, hK _ ?_⟩
        clear hK K
        refine Leg.QW.want (by kernel_rfl) (fun K hK => ?_)
        go_big_quiet_op
        refine hK _ ?_
        clear hK K
        refine Leg.QW.want (by kernel_rfl) (fun K hK => ?_)
        go_big_quiet_op
        refine hK _ ?_
        clear hK K
        refine Leg.QW.skip (by kernel_rfl) ?_
        refine Leg.QW.skip (by kernel_rfl) ?_
        refine Leg.QW.skip (by kernel_rfl) ?_
        refine Leg.QW.skip (by kernel_rfl) ?_
        refine Leg.QW.skip (by kernel_rfl) ?_
        refine Leg.QW.skip (by kernel_rfl) ?_
        refine Leg.QW.skip (by kernel_rfl) ?_
        refine Leg.QW.skip (by kernel_rfl) ?_
        refine Leg.QW.skip (by kernel_rfl) ?_
        refine Leg.QW.skip (by kernel_rfl) ?_
        refine Leg.QW.skip (by kernel_rfl) ?_
        refine Leg.QW.skip (by kernel_rfl) ?_
        refine Leg.QW.skip (by kernel_rfl) ?_
        refine Leg.QW.skip (by kernel_rfl) ?_
        refine Leg.QW.want (by kernel_rfl) (fun K hK => ?_)
        go_simp
        refine hK _ ?_
        clear hK K
        refine Leg.QW.nil ?_
        intro _ hw'
        obtain ⟨⟨dq, osq⟩, hw''⟩ := hw'
        subst hw''
        have hbq := hbel1.trans ((below_regrown wr1 dq osq).mono hbs1)
        clear hbel hbel1 hB hB1 hbs hbs1 cA cB g0 g1 g2 t0 t1 t2 t3 HB HC
        generalize grow (redrawn wr1 dq) osq = w9 at hbq ⊢
        have hBq := hb0.trans (hbq.mono (by omega))
        go_wp2
        go_ret
        exact ⟨by rw [HF.out]; rfl, hBq⟩
    · have hkl : k = fs.length := by omega
      have HR : Hid (pb (EntOk x (n, fs)) = decide (0 < fs.length)) := by
        by_cases h0 : 0 < fs.length
        · rw [decide_eq_true h0]; exact pb_yes (EntOk.of x n fs h0 (hkl ▸ hpre.out))
        · rw [decide_eq_false h0]; exact pb_no (fun h => h0 h.2.1)
      clear hpre hkl
      go_wp2
      go_ret
      exact ⟨by rw [HR.out]; rfl, hB⟩

end Go.Proofs.YtgnjkpmbppmoeaaGreat
