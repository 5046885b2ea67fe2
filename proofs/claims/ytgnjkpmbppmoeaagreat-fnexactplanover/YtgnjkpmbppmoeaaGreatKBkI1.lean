/- DERIVED. impl.PlanBookOk: its walk (written by wip/tools/mk_bi.py). -/
import Derived.Test.YtgnjkpmbppmoeaaGreatKBkI0
import Derived.Test.YtgnjkpmbppmoeaaGreatKPlS1
namespace Go.Proofs.YtgnjkpmbppmoeaaGreat
open Go.RowKit Go.Sort
set_option linter.unusedSimpArgs false
set_option linter.unusedVariables false

set_option maxRecDepth 100000 in
set_option maxHeartbeats 8000000 in
theorem iBook (bk : DPlanBook) (ao0 : Option Addr) (cap0 : Nat) (ao1 : Option Addr) (cap1 : Nat) (ao2 : Option Addr) (cap2 : Nat) (w : World) (h : BaseAt w bk.1 ao0 cap0 ao1 cap1) (he : SliceAt vPlanEntry (old w) w ao2 cap2 bk.2) (hs : wPlanEntryS bk.2 ≤ 1048576) :
    Calls Tryz.prog 29 #[.agg #[.slice ao0 bk.1.1.length cap0, .slice ao1 bk.1.2.length cap1, .slice ao2 bk.2.length cap2]] w fun r w' => r = .returned (.bool (pb (BookOk bk))) ∧ Below w.heap.size w w' := by
  obtain ⟨x, es⟩ := bk
  simp only at *
  have hm : es.length ≤ 9223372036854775807 := Nat.le_trans he.1 he.2.1
  have hb0 : Below w.heap.size w (w.alloc (.cells #[.slice ao0 x.1.length cap0, .slice ao1 x.2.length cap1, .slice ao2 es.length cap2] 43)) := (Below.refl _ _).alloc (Nat.le_refl _) _
  have hz0 : (w.alloc (.cells #[.slice ao0 x.1.length cap0, .slice ao1 x.2.length cap1, .slice ao2 es.length cap2] 43)).heap.size = w.heap.size + 1 := by simp
  go_enter Tryz.func29, Tryz.ntmps29
  go_wp2_with fail
  refine (iBase x ao0 cap0 ao1 cap1 _ (h.later hb0).p0 (h.later hb0).p1).mono ?_
  rintro e w1 ⟨rfl, hb1⟩
  have hB1 := hb0.trans (hb1.mono hb0.size)
  have hbel1 : Below (w.heap.size + 1) (w.alloc (.cells #[.slice ao0 x.1.length cap0, .slice ao1 x.2.length cap1, .slice ao2 es.length cap2] 43)) w1 := hb1.mono (by rw [hz0]; exact Nat.le_refl _)
  have hz1 : w.heap.size < w1.heap.size := by have := hb1.size; rw [hz0] at this; omega
  have y2 := box_at hbel1 2
  simp at y2
  clear hb1
  by_cases g1 : BaseOk x
  · rw [pb_yes g1]
    by_cases g2 : es.length ≤ 12
    · have g2I : decide ((12 : Int) < (es.length : Int)) = false := by simp; omega
      go_wp2
      clear y2
      go_loopw [18] (fun i wr => ∃ k : Nat, k ≤ es.length ∧ i = .int .i64 k ∧ Hid (RowTo (EntOk x) (fun e : DPlanEntry => e.1) es k) ∧ Below (w.heap.size + 1) (w.alloc (.cells #[.slice ao0 x.1.length cap0, .slice ao1 x.2.length cap1, .slice ao2 es.length cap2] 43)) wr) (fun i _ => es.length - (intOf i).toNat)
      case atStart => exact ⟨0, Nat.zero_le _, rfl, RowTo.zero, hbel1⟩
      case round =>
        clear hbel1 hB1 hz1
        obtain ⟨k, hk, rfl, hpre, hbel⟩ := hrel
        have hB := box_under hbel
        have x0 := box_at hbel 0
        have x1 := box_at hbel 1
        have x2 := box_at hbel 2
        simp at x0 x1 x2
        have hsz : w.heap.size < wr.heap.size := by have := hbel.size; simp at this; omega
        have hbs : w.heap.size + 1 ≤ wr.heap.size := hsz
        by_cases hlt : k < es.length
        · have hk1 : k - 1 < es.length := by omega
          have hv := ent_small hs hlt
          obtain ⟨b, off, fo, fc, rfl, hok, c0, c1, q0, q1⟩ := elem_PlanEntry he hlt
          have f0 := (hB.cell (p := ⟨b, off + k * 2, none⟩) hok).trans c0
          have f1 := (hB.cell (p := ⟨b, off + k * 2 + 1, none⟩) hok).trans c1
          clear c0 c1
          have hkI : (k : Int) < (es.length : Int) := by omega
          obtain ⟨n, fs, hcur⟩ : ∃ n fs, es[k]'hlt = (n, fs) := ⟨_, _, rfl⟩
          have HNO : Hid (¬ EntOk x (n, fs) → pb (BookOk (x, es)) = false) := fun h1 => pb_no (fun h2 => h1 (hcur ▸ (h2.2.2 k hlt hlt).1))
          have HYES : Hid (EntOk x (n, fs) → (∀ h0 : 0 < k, SLess (es[k - 1]'hk1).1 n) → RowTo (EntOk x) (fun e : DPlanEntry => e.1) es (k + 1)) := fun h1 h2 => hpre.out.next hlt (hcur ▸ h1) (fun h0 => by have := h2 h0; rw [hcur]; exact this)
          have HASC : Hid (∀ h0 : 0 < k, ¬ SLess (es[k - 1]'hk1).1 n → pb (BookOk (x, es)) = false) := fun h0 h1 => pb_no (fun h2 => h1 (by have := (h2.2.2 k hlt hlt).2 h0; rw [hcur] at this; exact this))
          rw [hcur] at f0 f1 q0 q1 hv
          simp only at f0 f1 q0 q1 hv
          clear hcur hpre
          by_cases hok0 : EntOk x (n, fs)
          · have hok1 := pb_yes hok0
            by_cases hk0 : 0 < k
            · obtain ⟨b', off', fo', fc', hbo, _, d0, d1, _⟩ := elem_PlanEntry he hk1
              cases hbo
              have p0 := (hB.cell (p := ⟨b, off + (k - 1) * 2, none⟩) hok).trans d0
              clear d0 d1
              have hd0 : decide ((0 : Int) < (k : Int)) = true := by simp; omega
              have hkI1 : (k : Int) - 1 < (es.length : Int) := by omega
              have hkN : ((k : Int) - 1).toNat = k - 1 := by omega
              have hk1I : (1 : Int) ≤ (k : Int) := by omega
              have hkW : IntKind.i64.wrap ((k : Int) - 1) = (k : Int) - 1 := by rw [IntKind.wrap_i64]; all_goals omega
              by_cases hasc : SLess (es[k - 1]'hk1).1 n
              · have HN1 : Hid (RowTo (EntOk x) (fun e : DPlanEntry => e.1) es (k + 1)) := HYES.out hok0 (fun _ => hasc)
                clear HNO HYES HASC hok0
                generalize (es[k - 1]'hk1).1 = n' at p0 hasc
                have hlb : Op.bytesLess n'.toList n.toList = true := hasc
                clear hasc
                go_wp2_with fail
                have hbW : Below wr.heap.size wr (wr.alloc (.cells #[.string n, .slice fo fs.length fc] 67)) := (Below.refl _ _).alloc (Nat.le_refl _) _
                have hbel1 := hbel.trans (hbW.mono hbs)
                have hB1 := hB.trans (hbW.mono (by omega))
                have hbs1 : w.heap.size + 1 ≤ (wr.alloc (.cells #[.string n, .slice fo fs.length fc] 67)).heap.size := by simp; omega
                have HF0 := BxC.new wr #[.string n, .slice fo fs.length fc] 67
                have v0 := HF0 0
                have v1 := HF0 1
                have r0 := box_at hbel1 0
                have r1 := box_at hbel1 1
                have r2 := box_at hbel1 2
                simp at r0 r1 r2
                have r4 := (hbW.cell (p := ⟨b, off + (k - 1) * 2, none⟩) (Nat.lt_of_lt_of_le hok (by omega))).trans p0
                clear p0
                clear HF0 hbW f0 f1 x0 x1 x2
                generalize (wr.alloc (.cells #[.string n, .slice fo fs.length fc] 67)) = wr1 at *
                have cA : ∀ dd os, Calls Tryz.prog 66 #[.agg #[.slice ao0 x.1.length cap0, .slice ao1 x.2.length cap1], .agg #[.string n, .slice fo fs.length fc]] (grow (redrawn wr1 dd) os) (fun e w'' => e = .returned (.bool true) ∧ ∃ p : Regrown, w'' = grow (redrawn wr1 p.d) p.os) := fun dd os => Calls.regrown_of (by rw [← hok1]; exact iEntry x _ _ _ _ (n, fs) fo fc _ (h.later (hB1.trans ((below_regrown wr1 dd os).mono hB1.size))) g1 q0 (q1.later (hB1.trans ((below_regrown wr1 dd os).mono hB1.size))) hv)
                have g0 := cell_regrown v0
                have g1' := cell_regrown v1
                have y0 := cell_regrown r0
                have y1 := cell_regrown r1
                have y2 := cell_regrown r2
                clear v0 v1 r0 r1 r2
                have t0 := cell_regrown r4
                clear r4
                clear hok1
                refine Leg.wp_region_qw (by kernel_rfl) (by kernel_rfl) ?_
                refine Leg.QW.want (by kernel_rfl) (fun K hK => ?_)
                go_big_quiet_op
                refine hK _ ?_
                clear hK K
                refine Leg.QW.want (by kernel_rfl) (fun K hK => ?_)
                go_big_quiet_op
                refine hK _ ?_
                clear hK K
                refine Leg.QW.want (by kernel_rfl) (fun K hK => ?_)
                go_big_quiet_op
                refine hK _ ?_
                clear hK K
                refine Leg.QW.want (by kernel_rfl) (fun K hK => ?_)
                go_big_quiet_op
                refine ⟨_, fun _ => cA _ _, hK _ ?_⟩
                clear hK K
                refine Leg.QW.want (by kernel_rfl) (fun K hK => ?_)
                go_big_quiet_op
                refine hK _ ?_
                clear hK K
                refine Leg.QW.want (by kernel_rfl) (fun K hK => ?_)
                go_big_quiet_op
                refine hK _ ?_
                clear hK K
                refine Leg.QW.want (by kernel_rfl) (fun K hK => ?_)
                go_big_quiet_op
                refine hK _ ?_
                clear hK K
                refine Leg.QW.want (by kernel_rfl) (fun K hK => ?_)
                go_big_quiet_op
                refine hK _ ?_
                clear hK K
                refine Leg.QW.want (by kernel_rfl) (fun K hK => ?_)
                go_big_quiet_op
                refine hK _ ?_
                clear hK K
                refine Leg.QW.want (by kernel_rfl) (fun K hK => ?_)
                go_big_quiet_op
                refine hK _ ?_
                clear hK K
                refine Leg.QW.want (by kernel_rfl) (fun K hK => ?_)
                go_big_quiet_op
                refine hK _ ?_
                clear hK K
                refine Leg.QW.want (by kernel_rfl) (fun K hK => ?_)
                go_big_quiet_op
                refine hK _ ?_
                clear hK K
                refine Leg.QW.want (by kernel_rfl) (fun K hK => ?_)
                go_big_quiet_op
                refine hK _ ?_
                clear hK K
                refine Leg.QW.want (by kernel_rfl) (fun K hK => ?_)
                go_big_quiet_op
                refine hK _ ?_
                clear hK K
                refine Leg.QW.want (by kernel_rfl) (fun K hK => ?_)
                go_big_quiet_op
                refine hK _ ?_
                clear hK K
                refine Leg.QW.want (by kernel_rfl) (fun K hK => ?_)
                go_big_quiet_op
                refine hK _ ?_
                clear hK K
                refine Leg.QW.want (by kernel_rfl) (fun K hK => ?_)
                go_big_quiet_op
                refine hK _ ?_
                clear hK K
                refine Leg.QW.want (by kernel_rfl) (fun K hK => ?_)
                go_big_quiet_op
                refine hK _ ?_
                clear hK K
                refine Leg.QW.want (by kernel_rfl) (fun K hK => ?_)
                go_big_quiet_op
                refine hK _ ?_
                clear hK K
                refine Leg.QW.want (by kernel_rfl) (fun K hK => ?_)
                go_big_quiet_op
                refine hK _ ?_
                clear hK K
                refine Leg.QW.want (by kernel_rfl) (fun K hK => ?_)
                go_big_quiet_op
                refine hK _ ?_
                clear hK K
                refine Leg.QW.nil ?_
                intro _ hw'
                obtain ⟨⟨dq, osq⟩, hw''⟩ := hw'
                subst hw''
                have hbq := hbel1.trans ((below_regrown wr1 dq osq).mono hbs1)
                clear hbel hbel1 hB hB1 hsz hbs hbs1 cA g0 g1' y0 y1 y2 t0
                generalize grow (redrawn wr1 dq) osq = w9 at hbq ⊢
                go_wp2
                go_roundw
                case rel => exact ⟨k + 1, by omega, by go_num, HN1, hbq⟩
                case measure => simp [intOf]; omega
              · have HF : Hid (pb (BookOk (x, es)) = false) := HASC.out hk0 hasc
                clear HNO HYES HASC hok0
                generalize (es[k - 1]'hk1).1 = n' at p0 hasc
                have hlb : Op.bytesLess n'.toList n.toList = false := by unfold SLess at hasc; simpa using hasc
                clear hasc
                go_wp2_with fail
                have hbW : Below wr.heap.size wr (wr.alloc (.cells #[.string n, .slice fo fs.length fc] 67)) := (Below.refl _ _).alloc (Nat.le_refl _) _
                have hbel1 := hbel.trans (hbW.mono hbs)
                have hB1 := hB.trans (hbW.mono (by omega))
                have hbs1 : w.heap.size + 1 ≤ (wr.alloc (.cells #[.string n, .slice fo fs.length fc] 67)).heap.size := by simp; omega
                have HF0 := BxC.new wr #[.string n, .slice fo fs.length fc] 67
                have v0 := HF0 0
                have v1 := HF0 1
                have r0 := box_at hbel1 0
                have r1 := box_at hbel1 1
                have r2 := box_at hbel1 2
                simp at r0 r1 r2
                have r4 := (hbW.cell (p := ⟨b, off + (k - 1) * 2, none⟩) (Nat.lt_of_lt_of_le hok (by omega))).trans p0
                clear p0
                clear HF0 hbW f0 f1 x0 x1 x2
                generalize (wr.alloc (.cells #[.string n, .slice fo fs.length fc] 67)) = wr1 at *
                have cA : ∀ dd os, Calls Tryz.prog 66 #[.agg #[.slice ao0 x.1.length cap0, .slice ao1 x.2.length cap1], .agg #[.string n, .slice fo fs.length fc]] (grow (redrawn wr1 dd) os) (fun e w'' => e = .returned (.bool true) ∧ ∃ p : Regrown, w'' = grow (redrawn wr1 p.d) p.os) := fun dd os => Calls.regrown_of (by rw [← hok1]; exact iEntry x _ _ _ _ (n, fs) fo fc _ (h.later (hB1.trans ((below_regrown wr1 dd os).mono hB1.size))) g1 q0 (q1.later (hB1.trans ((below_regrown wr1 dd os).mono hB1.size))) hv)
                have g0 := cell_regrown v0
                have g1' := cell_regrown v1
                have y0 := cell_regrown r0
                have y1 := cell_regrown r1
                have y2 := cell_regrown r2
                clear v0 v1 r0 r1 r2
                have t0 := cell_regrown r4
                clear r4
                clear hok1
                refine Leg.wp_region_qw (by kernel_rfl) (by kernel_rfl) ?_
                refine Leg.QW.want (by kernel_rfl) (fun K hK => ?_)
                go_big_quiet_op
                refine hK _ ?_
                clear hK K
                refine Leg.QW.want (by kernel_rfl) (fun K hK => ?_)
                go_big_quiet_op
                refine hK _ ?_
                clear hK K
                refine Leg.QW.want (by kernel_rfl) (fun K hK => ?_)
                go_big_quiet_op
                refine hK _ ?_
                clear hK K
                refine Leg.QW.want (by kernel_rfl) (fun K hK => ?_)
                go_big_quiet_op
                refine ⟨_, fun _ => cA _ _, hK _ ?_⟩
                clear hK K
                refine Leg.QW.want (by kernel_rfl) (fun K hK => ?_)
                go_big_quiet_op
                refine hK _ ?_
                clear hK K
                refine Leg.QW.want (by kernel_rfl) (fun K hK => ?_)
                go_big_quiet_op
                refine hK _ ?_
                clear hK K
                refine Leg.QW.want (by kernel_rfl) (fun K hK => ?_)
                go_big_quiet_op
                refine hK _ ?_
                clear hK K
                refine Leg.QW.want (by kernel_rfl) (fun K hK => ?_)
                go_big_quiet_op
                refine hK _ ?_
                clear hK K
                refine Leg.QW.want (by kernel_rfl) (fun K hK => ?_)
                go_big_quiet_op
                refine hK _ ?_
                clear hK K
                refine Leg.QW.want (by kernel_rfl) (fun K hK => ?_)
                go_big_quiet_op
                refine hK _ ?_
                clear hK K
                refine Leg.QW.want (by kernel_rfl) (fun K hK => ?_)
                go_big_quiet_op
                refine hK _ ?_
                clear hK K
                refine Leg.QW.want (by kernel_rfl) (fun K hK => ?_)
                go_big_quiet_op
                refine hK _ ?_
                clear hK K
                refine Leg.QW.want (by kernel_rfl) (fun K hK => ?_)
                go_big_quiet_op
                refine hK _ ?_
                clear hK K
                refine Leg.QW.want (by kernel_rfl) (fun K hK => ?_)
                go_big_quiet_op
                refine hK _ ?_
                clear hK K
                refine Leg.QW.want (by kernel_rfl) (fun K hK => ?_)
                go_big_quiet_op
                refine hK _ ?_
                clear hK K
                refine Leg.QW.want (by kernel_rfl) (fun K hK => ?_)
                go_big_quiet_op
                refine hK _ ?_
                clear hK K
                refine Leg.QW.want (by kernel_rfl) (fun K hK => ?_)
                go_big_quiet_op
                refine hK _ ?_
                clear hK K
                refine Leg.QW.want (by kernel_rfl) (fun K hK => ?_)
                go_big_quiet_op
                refine hK _ ?_
                clear hK K
                refine Leg.QW.want (by kernel_rfl) (fun K hK => ?_)
                go_big_quiet_op
                refine hK _ ?_
                clear hK K
                refine Leg.QW.want (by kernel_rfl) (fun K hK => ?_)
                go_big_quiet_op
                refine hK _ ?_
                clear hK K
                refine Leg.QW.want (by kernel_rfl) (fun K hK => ?_)
                go_big_quiet_op
                refine hK _ ?_
                clear hK K
                refine Leg.QW.nil ?_
                intro _ hw'
                obtain ⟨⟨dq, osq⟩, hw''⟩ := hw'
                subst hw''
                have hbq := hbel1.trans ((below_regrown wr1 dq osq).mono hbs1)
                clear hbel hbel1 hB hB1 hsz hbs hbs1 cA g0 g1' y0 y1 y2 t0
                generalize grow (redrawn wr1 dq) osq = w9 at hbq ⊢
                have hBq := box_under hbq
                go_wp2
                go_ret
                exact ⟨by rw [HF.out]; rfl, hBq⟩
            · have hd0 : decide ((0 : Int) < (k : Int)) = false := by simp; omega
              have HN1 : Hid (RowTo (EntOk x) (fun e : DPlanEntry => e.1) es (k + 1)) := HYES.out hok0 (fun h0 => absurd h0 hk0)
              clear HNO HYES HASC hok0
              go_wp2_with fail
              have hbW : Below wr.heap.size wr (wr.alloc (.cells #[.string n, .slice fo fs.length fc] 67)) := (Below.refl _ _).alloc (Nat.le_refl _) _
              have hbel1 := hbel.trans (hbW.mono hbs)
              have hB1 := hB.trans (hbW.mono (by omega))
              have hbs1 : w.heap.size + 1 ≤ (wr.alloc (.cells #[.string n, .slice fo fs.length fc] 67)).heap.size := by simp; omega
              have HF0 := BxC.new wr #[.string n, .slice fo fs.length fc] 67
              have v0 := HF0 0
              have v1 := HF0 1
              have r0 := box_at hbel1 0
              have r1 := box_at hbel1 1
              have r2 := box_at hbel1 2
              simp at r0 r1 r2
              clear HF0 hbW f0 f1 x0 x1 x2
              generalize (wr.alloc (.cells #[.string n, .slice fo fs.length fc] 67)) = wr1 at *
              have cA : ∀ dd os, Calls Tryz.prog 66 #[.agg #[.slice ao0 x.1.length cap0, .slice ao1 x.2.length cap1], .agg #[.string n, .slice fo fs.length fc]] (grow (redrawn wr1 dd) os) (fun e w'' => e = .returned (.bool true) ∧ ∃ p : Regrown, w'' = grow (redrawn wr1 p.d) p.os) := fun dd os => Calls.regrown_of (by rw [← hok1]; exact iEntry x _ _ _ _ (n, fs) fo fc _ (h.later (hB1.trans ((below_regrown wr1 dd os).mono hB1.size))) g1 q0 (q1.later (hB1.trans ((below_regrown wr1 dd os).mono hB1.size))) hv)
              have g0 := cell_regrown v0
              have g1' := cell_regrown v1
              have y0 := cell_regrown r0
              have y1 := cell_regrown r1
              have y2 := cell_regrown r2
              clear v0 v1 r0 r1 r2
              clear hok1
              refine Leg.wp_region_qw (by kernel_rfl) (by kernel_rfl) ?_
              refine Leg.QW.want (by kernel_rfl) (fun K hK => ?_)
              go_big_quiet_op
              refine hK _ ?_
              clear hK K
              refine Leg.QW.want (by kernel_rfl) (fun K hK => ?_)
              go_big_quiet_op
              refine hK _ ?_
              clear hK K
              refine Leg.QW.want (by kernel_rfl) (fun K hK => ?_)
              go_big_quiet_op
              refine hK _ ?_
              clear hK K
              refine Leg.QW.want (by kernel_rfl) (fun K hK => ?_)
              go_big_quiet_op
              refine ⟨_, fun _ => cA _ _, hK _ ?_⟩
              clear hK K
              refine Leg.QW.want (by kernel_rfl) (fun K hK => ?_)
              go_big_quiet_op
              refine hK _ ?_
              clear hK K
              refine Leg.QW.want (by kernel_rfl) (fun K hK => ?_)
              go_big_quiet_op
              refine hK _ ?_
              clear hK K
              refine Leg.QW.want (by kernel_rfl) (fun K hK => ?_)
              go_big_quiet_op
              refine hK _ ?_
              clear hK K
              refine Leg.QW.want (by kernel_rfl) (fun K hK => ?_)
              go_big_quiet_op
              refine hK _ ?_
              clear hK K
              refine Leg.QW.want (by kernel_rfl) (fun K hK => ?_)
              go_big_quiet_op
              refine hK _ ?_
              clear hK K
              refine Leg.QW.skip (by kernel_rfl) ?_
              refine Leg.QW.skip (by kernel_rfl) ?_
              refine Leg.QW.skip (by kernel_rfl) ?_
              refine Leg.QW.skip (by kernel_rfl) ?_
              refine Leg.QW.skip (by kernel_rfl) ?_
              refine Leg.QW.skip (by kernel_rfl) ?_
              refine Leg.QW.skip (by kernel_rfl) ?_
              refine Leg.QW.skip (by kernel_rfl) ?_
              refine Leg.QW.skip (by kernel_rfl) ?_
              refine Leg.QW.skip (by kernel_rfl) ?_
              refine Leg.QW.want (by kernel_rfl) (fun K hK => ?_)
              go_simp
              refine hK _ ?_
              clear hK K
              refine Leg.QW.want (by kernel_rfl) (fun K hK => ?_)
              go_big_quiet_op
              refine hK _ ?_
              clear hK K
              refine Leg.QW.nil ?_
              intro _ hw'
              obtain ⟨⟨dq, osq⟩, hw''⟩ := hw'
              subst hw''
              have hbq := hbel1.trans ((below_regrown wr1 dq osq).mono hbs1)
              clear hbel hbel1 hB hB1 hsz hbs hbs1 cA g0 g1' y0 y1 y2
              generalize grow (redrawn wr1 dq) osq = w9 at hbq ⊢
              go_wp2
              go_roundw
              case rel => exact ⟨k + 1, by omega, by go_num, HN1, hbq⟩
              case measure => simp [intOf]; omega
          · have hok1 := pb_no hok0
            have HF : Hid (pb (BookOk (x, es)) = false) := HNO.out hok0
            clear HNO HYES HASC hok0
            go_wp2_with fail
            have hbW : Below wr.heap.size wr (wr.alloc (.cells #[.string n, .slice fo fs.length fc] 67)) := (Below.refl _ _).alloc (Nat.le_refl _) _
            have hbel1 := hbel.trans (hbW.mono hbs)
            have hB1 := hB.trans (hbW.mono (by omega))
            have hbs1 : w.heap.size + 1 ≤ (wr.alloc (.cells #[.string n, .slice fo fs.length fc] 67)).heap.size := by simp; omega
            have HF0 := BxC.new wr #[.string n, .slice fo fs.length fc] 67
            have v0 := HF0 0
            have v1 := HF0 1
            have r0 := box_at hbel1 0
            have r1 := box_at hbel1 1
            have r2 := box_at hbel1 2
            simp at r0 r1 r2
            clear HF0 hbW f0 f1 x0 x1 x2
            generalize (wr.alloc (.cells #[.string n, .slice fo fs.length fc] 67)) = wr1 at *
            have cA : ∀ dd os, Calls Tryz.prog 66 #[.agg #[.slice ao0 x.1.length cap0, .slice ao1 x.2.length cap1], .agg #[.string n, .slice fo fs.length fc]] (grow (redrawn wr1 dd) os) (fun e w'' => e = .returned (.bool false) ∧ ∃ p : Regrown, w'' = grow (redrawn wr1 p.d) p.os) := fun dd os => Calls.regrown_of (by rw [← hok1]; exact iEntry x _ _ _ _ (n, fs) fo fc _ (h.later (hB1.trans ((below_regrown wr1 dd os).mono hB1.size))) g1 q0 (q1.later (hB1.trans ((below_regrown wr1 dd os).mono hB1.size))) hv)
            have g0 := cell_regrown v0
            have g1' := cell_regrown v1
            have y0 := cell_regrown r0
            have y1 := cell_regrown r1
            have y2 := cell_regrown r2
            clear v0 v1 r0 r1 r2
            clear hok1
            refine Leg.wp_region_qw (by kernel_rfl) (by kernel_rfl) ?_
            refine Leg.QW.want (by kernel_rfl) (fun K hK => ?_)
            go_big_quiet_op
            refine hK _ ?_
            clear hK K
            refine Leg.QW.want (by kernel_rfl) (fun K hK => ?_)
            go_big_quiet_op
            refine hK _ ?_
            clear hK K
            refine Leg.QW.want (by kernel_rfl) (fun K hK => ?_)
            go_big_quiet_op
            refine hK _ ?_
            clear hK K
            refine Leg.QW.want (by kernel_rfl) (fun K hK => ?_)
            go_big_quiet_op
            refine ⟨_, fun _ => cA _ _, hK _ ?_⟩
            clear hK K
            refine Leg.QW.want (by kernel_rfl) (fun K hK => ?_)
            go_big_quiet_op
            refine hK _ ?_
            clear hK K
            refine Leg.QW.want (by kernel_rfl) (fun K hK => ?_)
            go_big_quiet_op
            refine hK _ ?_
            clear hK K
            refine Leg.QW.skip (by kernel_rfl) ?_
            refine Leg.QW.skip (by kernel_rfl) ?_
            refine Leg.QW.skip (by kernel_rfl) ?_
            refine Leg.QW.skip (by kernel_rfl) ?_
            refine Leg.QW.skip (by kernel_rfl) ?_
            refine Leg.QW.skip (by kernel_rfl) ?_
            refine Leg.QW.skip (by kernel_rfl) ?_
            refine Leg.QW.skip (by kernel_rfl) ?_
            refine Leg.QW.skip (by kernel_rfl) ?_
            refine Leg.QW.skip (by kernel_rfl) ?_
            refine Leg.QW.skip (by kernel_rfl) ?_
            refine Leg.QW.skip (by kernel_rfl) ?_
            refine Leg.QW.skip (by kernel_rfl) ?_
            refine Leg.QW.skip (by kernel_rfl) ?_
            refine Leg.QW.want (by kernel_rfl) (fun K hK => ?_)
            go_simp
            refine hK _ ?_
            clear hK K
            refine Leg.QW.nil ?_
            intro _ hw'
            obtain ⟨⟨dq, osq⟩, hw''⟩ := hw'
            subst hw''
            have hbq := hbel1.trans ((below_regrown wr1 dq osq).mono hbs1)
            clear hbel hbel1 hB hB1 hsz hbs hbs1 cA g0 g1' y0 y1 y2
            generalize grow (redrawn wr1 dq) osq = w9 at hbq ⊢
            have hBq := box_under hbq
            go_wp2
            go_ret
            exact ⟨by rw [HF.out]; rfl, hBq⟩
        · have HR : Hid (pb (BookOk (x, es)) = true) := pb_yes ⟨g1, g2, (show k = es.length by omega) ▸ hpre.out⟩
          clear hpre x0 x1
          go_wp2
          go_ret
          exact ⟨by rw [HR.out]; rfl, hB⟩
    · have g2I : decide ((12 : Int) < (es.length : Int)) = true := by simp; omega
      have HR : Hid (pb (BookOk (x, es)) = false) := pb_no (fun h => g2 h.2.1)
      go_wp2
      go_ret
      exact ⟨by rw [HR.out]; rfl, hB1⟩
  · rw [pb_no g1]
    have HR : Hid (pb (BookOk (x, es)) = false) := pb_no (fun h => g1 h.1)
    go_wp2
    go_ret
    exact ⟨by rw [HR.out]; rfl, hB1⟩

end Go.Proofs.YtgnjkpmbppmoeaaGreat
