/- DERIVED. spec.PlanBaseOk: its walk (written by wip/tools/mk_ps11.py). -/
import Derived.Test.YtgnjkpmbppmoeaaGreatKGNs
import Derived.Test.YtgnjkpmbppmoeaaGreatKWq0
namespace Go.Proofs.YtgnjkpmbppmoeaaGreat
open Go.RowKit Go.Sort
set_option linter.unusedSimpArgs false
set_option linter.unusedVariables false

theorem box_at {w wr : World} {cs : Array Value} {t : TypeId} (h : Below (w.heap.size + 1) (w.alloc (.cells cs t)) wr) (i : Nat) : wr.cell? ⟨w.heap.size, i, none⟩ = cs[i]? := by
  rw [h.cell (p := ⟨w.heap.size, i, none⟩) (by show w.heap.size < w.heap.size + 1; omega)]
  have : (w.alloc (.cells cs t)).heap[w.heap.size]? = some (.cells cs t (0, 0)) := heap_alloc_new w _
  unfold World.cell?
  simp only [this]
  rfl

theorem box_under {w wr : World} {o : Obj} (h : Below (w.heap.size + 1) (w.alloc o) wr) : Below w.heap.size w wr :=
  ((Below.refl w.heap.size w).alloc (Nat.le_refl _) o).trans (h.mono (by omega))

set_option maxRecDepth 100000 in
set_option maxHeartbeats 8000000 in
theorem sBase (x : DPlanBase) (ao0 : Option Addr) (cap0 : Nat) (ao1 : Option Addr) (cap1 : Nat) (w : World) (h0 : SliceAt vPlanKind (old w) w ao0 cap0 x.1) (h1 : SliceAt vPlanPoint (old w) w ao1 cap1 x.2) :
    Calls Tryz.prog 56 #[.agg #[.slice ao0 x.1.length cap0, .slice ao1 x.2.length cap1]] w fun e w' => e = .returned (.bool (pb (BaseOk x))) ∧ Below w.heap.size w w' := by
  obtain ⟨ks, ps⟩ := x
  simp only at *
  have hb0 : Below w.heap.size w (w.alloc (.cells #[.slice ao0 ks.length cap0, .slice ao1 ps.length cap1] 40)) := (Below.refl _ _).alloc (Nat.le_refl _) _
  have hm0 : ks.length ≤ 9223372036854775807 := Nat.le_trans h0.1 h0.2.1
  have hm1 : ps.length ≤ 9223372036854775807 := Nat.le_trans h1.1 h1.2.1
  by_cases n0 : ks.length ≤ 6
  · by_cases n1 : ps.length ≤ 16
    · have n0I : ¬ (6 : Int) < (ks.length : Int) := by omega
      have n1I : ¬ (16 : Int) < (ps.length : Int) := by omega
      go_enter Tryz.func56, Tryz.ntmps56
      go_wp2
      go_loopw [3] (fun i wr => ∃ k : Nat, k ≤ ks.length ∧ i = .int .i64 k ∧ Hid (RowTo KindOk (fun x : DPlanKind => x.1) ks k) ∧ Below (w.heap.size + 1) (w.alloc (.cells #[.slice ao0 ks.length cap0, .slice ao1 ps.length cap1] 40)) wr) (fun i _ => ks.length - (intOf i).toNat)
      case atStart => exact ⟨0, Nat.zero_le _, rfl, RowTo.zero, Below.refl _ _⟩
      case round =>
        obtain ⟨k, hk, rfl, hpre, hbel⟩ := hrel
        have hB := box_under hbel
        have x0 := box_at hbel 0
        simp at x0
        have hsz : w.heap.size < wr.heap.size := by have := hbel.size; simp at this; omega
        have hbs : w.heap.size + 1 ≤ wr.heap.size := hsz
        by_cases hlt : k < ks.length
        · have hk1 : k - 1 < ks.length := by omega
          obtain ⟨b, off, rfl, hok, c0, c1, c2, q0, _⟩ := elem_PlanKind h0 hlt
          have f0 := (hB.cell (p := ⟨b, off + k * 3, none⟩) hok).trans c0
          have f1 := (hB.cell (p := ⟨b, off + k * 3 + 1, none⟩) hok).trans c1
          have f2 := (hB.cell (p := ⟨b, off + k * 3 + 2, none⟩) hok).trans c2
          clear c0 c1 c2
          have hkI : (k : Int) < (ks.length : Int) := by omega
          obtain ⟨n, q, s, hcur⟩ : ∃ n q s, ks[k]'hlt = (n, q, s) := ⟨_, _, _, rfl⟩
          have HNO : Hid (¬ KindOk (n, q, s) → pb (BaseOk (ks, ps)) = false) := fun h1 => pb_no (fun h2 => h1 (hcur ▸ (h2.2.1 k hlt hlt).1))
          have HYES : Hid (KindOk (n, q, s) → (∀ h0 : 0 < k, SLess (ks[k - 1]'hk1).1 n) → RowTo KindOk (fun x : DPlanKind => x.1) ks (k + 1)) := fun h1 h2 => hpre.out.next hlt (hcur ▸ h1) (fun h0 => by have := h2 h0; rw [hcur]; exact this)
          have HASC : Hid (∀ h0 : 0 < k, ¬ SLess (ks[k - 1]'hk1).1 n → pb (BaseOk (ks, ps)) = false) := fun h0 h1 => pb_no (fun h2 => h1 (by have := (h2.2.1 k hlt hlt).2 h0; rw [hcur] at this; exact this))
          rw [hcur] at f0 f1 f2 q0
          simp only at f0 f1 f2 q0
          clear hcur hpre
          by_cases hok0 : KindOk (n, q, s)
          · have hok1 := pb_yes hok0
            by_cases hk0 : 0 < k
            · obtain ⟨b', off', hbo, _, d0, d1, d2, _⟩ := elem_PlanKind h0 hk1
              cases hbo
              have p0 := (hB.cell (p := ⟨b, off + (k - 1) * 3, none⟩) hok).trans d0
              clear d0 d1 d2
              have hd0 : decide ((0 : Int) < (k : Int)) = true := by simp; omega
              have hkI1 : (k : Int) - 1 < (ks.length : Int) := by omega
              have hkN : ((k : Int) - 1).toNat = k - 1 := by omega
              have hk1I : (1 : Int) ≤ (k : Int) := by omega
              have hkW : IntKind.i64.wrap ((k : Int) - 1) = (k : Int) - 1 := by rw [IntKind.wrap_i64]; all_goals omega
              by_cases hasc : SLess (ks[k - 1]'hk1).1 n
              · have HN1 : Hid (RowTo KindOk (fun x : DPlanKind => x.1) ks (k + 1)) := HYES.out hok0 (fun _ => hasc)
                clear HNO HYES HASC hok0
                generalize (ks[k - 1]'hk1).1 = n' at p0 hasc
                have hlb : Op.bytesLess n'.toList n.toList = true := hasc
                clear hasc
                have cA : ∀ dd os, Calls Tryz.prog 91 #[.agg #[.string n, .int .i64 q, .int .i64 s]] (grow (redrawn wr dd) os) (fun e w'' => e = .returned (.bool true) ∧ ∃ p : Regrown, w'' = grow (redrawn wr p.d) p.os) := fun dd os => Calls.regrown_of (by rw [← hok1]; exact sKind (n, q, s) _ q0)
                have g0 := cell_regrown f0
                have g1 := cell_regrown f1
                have g2 := cell_regrown f2
                have y0 := cell_regrown x0
                clear f0 f1 f2
                have t0 := cell_regrown p0
                clear p0
                clear hok1
                go_wp2_with fail
                clear x0
                refine Leg.wp_region_qw (by kernel_rfl) (by kernel_rfl) ?_
                refine Leg.QW.want (by kernel_rfl) (fun K hK => ?_)
                go_big_quiet_op
                refine hK _ ?_
                clear hK K
                refine Leg.QW.want (by kernel_rfl) (fun K hK => ?_)
                go_big_quiet_op
                refine hK _ ?_
                clear hK K
                refine Leg.QW.want (by kernel_rfl) (fun K hK => ?_)
                go_big_quiet_op
                refine hK _ ?_
                clear hK K
                refine Leg.QW.want (by kernel_rfl) (fun K hK => ?_)
                go_big_quiet_op
                refine hK _ ?_
                clear hK K
                refine Leg.QW.want (by kernel_rfl) (fun K hK => ?_)
                go_big_quiet_op
                refine hK _ ?_
                clear hK K
                refine Leg.QW.want (by kernel_rfl) (fun K hK => ?_)
                go_big_quiet_op
                refine ⟨_, fun _ => cA _ _, hK _ ?_⟩
                clear hK K
                refine Leg.QW.want (by kernel_rfl) (fun K hK => ?_)
                go_big_quiet_op
                refine hK _ ?_
                clear hK K
                refine Leg.QW.want (by kernel_rfl) (fun K hK => ?_)
                go_big_quiet_op
                refine hK _ ?_
                clear hK K
                refine Leg.QW.want (by kernel_rfl) (fun K hK => ?_)
                go_big_quiet_op
                refine hK _ ?_
                clear hK K
                refine Leg.QW.want (by kernel_rfl) (fun K hK => ?_)
                go_big_quiet_op
                refine hK _ ?_
                clear hK K
                refine Leg.QW.want (by kernel_rfl) (fun K hK => ?_)
                go_big_quiet_op
                refine hK _ ?_
                clear hK K
                refine Leg.QW.want (by kernel_rfl) (fun K hK => ?_)
                go_big_quiet_op
                refine hK _ ?_
                clear hK K
                refine Leg.QW.want (by kernel_rfl) (fun K hK => ?_)
                go_big_quiet_op
                refine hK _ ?_
                clear hK K
                refine Leg.QW.want (by kernel_rfl) (fun K hK => ?_)
                go_big_quiet_op
                refine hK _ ?_
                clear hK K
                refine Leg.QW.want (by kernel_rfl) (fun K hK => ?_)
                go_big_quiet_op
                refine hK _ ?_
                clear hK K
                refine Leg.QW.want (by kernel_rfl) (fun K hK => ?_)
                go_big_quiet_op
                refine hK _ ?_
                clear hK K
                refine Leg.QW.want (by kernel_rfl) (fun K hK => ?_)
                go_big_quiet_op
                refine hK _ ?_
                clear hK K
                refine Leg.QW.want (by kernel_rfl) (fun K hK => ?_)
                go_big_quiet_op
                refine hK _ ?_
                clear hK K
                refine Leg.QW.want (by kernel_rfl) (fun K hK => ?_)
                go_big_quiet_op
                refine hK _ ?_
                clear hK K
                refine Leg.QW.want (by kernel_rfl) (fun K hK => ?_)
                go_big_quiet_op
                refine hK _ ?_
                clear hK K
                refine Leg.QW.want (by kernel_rfl) (fun K hK => ?_)
                go_big_quiet_op
                refine hK _ ?_
                clear hK K
                refine Leg.QW.want (by kernel_rfl) (fun K hK => ?_)
                go_big_quiet_op
                refine hK _ ?_
                clear hK K
                refine Leg.QW.want (by kernel_rfl) (fun K hK => ?_)
                go_big_quiet_op
                refine hK _ ?_
                clear hK K
                refine Leg.QW.want (by kernel_rfl) (fun K hK => ?_)
                go_big_quiet_op
                refine hK _ ?_
                clear hK K
                refine Leg.QW.want (by kernel_rfl) (fun K hK => ?_)
                go_big_quiet_op
                refine hK _ ?_
                clear hK K
                refine Leg.QW.want (by kernel_rfl) (fun K hK => ?_)
                go_big_quiet_op
                refine hK _ ?_
                clear hK K
                refine Leg.QW.want (by kernel_rfl) (fun K hK => ?_)
                go_big_quiet_op
                refine hK _ ?_
                clear hK K
                refine Leg.QW.nil ?_
                intro _ hw'
                obtain ⟨⟨dq, osq⟩, hw''⟩ := hw'
                subst hw''
                have hbq := hbel.trans ((below_regrown wr dq osq).mono hbs)
                clear hbel hB hsz hbs cA g0 g1 g2 y0
                clear t0
                generalize grow (redrawn wr dq) osq = w9 at hbq ⊢
                go_wp2
                go_roundw
                case rel => exact ⟨k + 1, by omega, by go_num, HN1, hbq⟩
                case measure => simp [intOf]; omega
              · have HF : Hid (pb (BaseOk (ks, ps)) = false) := HASC.out hk0 hasc
                clear HNO HYES HASC hok0
                generalize (ks[k - 1]'hk1).1 = n' at p0 hasc
                have hlb : Op.bytesLess n'.toList n.toList = false := by unfold SLess at hasc; simpa using hasc
                clear hasc
                have cA : ∀ dd os, Calls Tryz.prog 91 #[.agg #[.string n, .int .i64 q, .int .i64 s]] (grow (redrawn wr dd) os) (fun e w'' => e = .returned (.bool true) ∧ ∃ p : Regrown, w'' = grow (redrawn wr p.d) p.os) := fun dd os => Calls.regrown_of (by rw [← hok1]; exact sKind (n, q, s) _ q0)
                have g0 := cell_regrown f0
                have g1 := cell_regrown f1
                have g2 := cell_regrown f2
                have y0 := cell_regrown x0
                clear f0 f1 f2
                have t0 := cell_regrown p0
                clear p0
                clear hok1
                go_wp2_with fail
                clear x0
                refine Leg.wp_region_qw (by kernel_rfl) (by kernel_rfl) ?_
                refine Leg.QW.want (by kernel_rfl) (fun K hK => ?_)
                go_big_quiet_op
                refine hK _ ?_
                clear hK K
                refine Leg.QW.want (by kernel_rfl) (fun K hK => ?_)
                go_big_quiet_op
                refine hK _ ?_
                clear hK K
                refine Leg.QW.want (by kernel_rfl) (fun K hK => ?_)
                go_big_quiet_op
                refine hK _ ?_
                clear hK K
                refine Leg.QW.want (by kernel_rfl) (fun K hK => ?_)
                go_big_quiet_op
                refine hK _ ?_
                clear hK K
                refine Leg.QW.want (by kernel_rfl) (fun K hK => ?_)
                go_big_quiet_op
                refine hK _ ?_
                clear hK K
                refine Leg.QW.want (by kernel_rfl) (fun K hK => ?_)
                go_big_quiet_op
                refine ⟨_, fun _ => cA _ _, hK _ ?_⟩
                clear hK K
                refine Leg.QW.want (by kernel_rfl) (fun K hK => ?_)
                go_big_quiet_op
                refine hK _ ?_
                clear hK K
                refine Leg.QW.want (by kernel_rfl) (fun K hK => ?_)
                go_big_quiet_op
                refine hK _ ?_
                clear hK K
                refine Leg.QW.want (by kernel_rfl) (fun K hK => ?_)
                go_big_quiet_op
                refine hK _ ?_
                clear hK K
                refine Leg.QW.want (by kernel_rfl) (fun K hK => ?_)
                go_big_quiet_op
                refine hK _ ?_
                clear hK K
                refine Leg.QW.want (by kernel_rfl) (fun K hK => ?_)
                go_big_quiet_op
                refine hK _ ?_
                clear hK K
                refine Leg.QW.want (by kernel_rfl) (fun K hK => ?_)
                go_big_quiet_op
                refine hK _ ?_
                clear hK K
                refine Leg.QW.want (by kernel_rfl) (fun K hK => ?_)
                go_big_quiet_op
                refine hK _ ?_
                clear hK K
                refine Leg.QW.want (by kernel_rfl) (fun K hK => ?_)
                go_big_quiet_op
                refine hK _ ?_
                clear hK K
                refine Leg.QW.want (by kernel_rfl) (fun K hK => ?_)
                go_big_quiet_op
                refine hK _ ?_
                clear hK K
                refine Leg.QW.want (by kernel_rfl) (fun K hK => ?_)
                go_big_quiet_op
                refine hK _ ?_
                clear hK K
                refine Leg.QW.want (by kernel_rfl) (fun K hK => ?_)
                go_big_quiet_op
                refine hK _ ?_
                clear hK K
                refine Leg.QW.want (by kernel_rfl) (fun K hK => ?_)
                go_big_quiet_op
                refine hK _ ?_
                clear hK K
                refine Leg.QW.want (by kernel_rfl) (fun K hK => ?_)
                go_big_quiet_op
                refine hK _ ?_
                clear hK K
                refine Leg.QW.want (by kernel_rfl) (fun K hK => ?_)
                go_big_quiet_op
                refine hK _ ?_
                clear hK K
                refine Leg.QW.want (by kernel_rfl) (fun K hK => ?_)
                go_big_quiet_op
                refine hK _ ?_
                clear hK K
                refine Leg.QW.want (by kernel_rfl) (fun K hK => ?_)
                go_big_quiet_op
                refine hK _ ?_
                clear hK K
                refine Leg.QW.want (by kernel_rfl) (fun K hK => ?_)
                go_big_quiet_op
                refine hK _ ?_
                clear hK K
                refine Leg.QW.want (by kernel_rfl) (fun K hK => ?_)
                go_big_quiet_op
                refine hK _ ?_
                clear hK K
                refine Leg.QW.want (by kernel_rfl) (fun K hK => ?_)
                go_big_quiet_op
                refine hK _ ?_
                clear hK K
                refine Leg.QW.want (by kernel_rfl) (fun K hK => ?_)
                go_big_quiet_op
                refine hK _ ?_
                clear hK K
                refine Leg.QW.want (by kernel_rfl) (fun K hK => ?_)
                go_big_quiet_op
                refine hK _ ?_
                clear hK K
                refine Leg.QW.nil ?_
                intro _ hw'
                obtain ⟨⟨dq, osq⟩, hw''⟩ := hw'
                subst hw''
                have hbq := hbel.trans ((below_regrown wr dq osq).mono hbs)
                clear hbel hB hsz hbs cA g0 g1 g2 y0
                clear t0
                generalize grow (redrawn wr dq) osq = w9 at hbq ⊢
                have hBq := box_under hbq
                go_wp2
                go_ret
                exact ⟨by rw [HF.out]; rfl, hBq⟩
            · have hd0 : decide ((0 : Int) < (k : Int)) = false := by simp; omega
              have HN1 : Hid (RowTo KindOk (fun x : DPlanKind => x.1) ks (k + 1)) := HYES.out hok0 (fun h0 => absurd h0 hk0)
              clear HNO HYES HASC hok0
              have cA : ∀ dd os, Calls Tryz.prog 91 #[.agg #[.string n, .int .i64 q, .int .i64 s]] (grow (redrawn wr dd) os) (fun e w'' => e = .returned (.bool true) ∧ ∃ p : Regrown, w'' = grow (redrawn wr p.d) p.os) := fun dd os => Calls.regrown_of (by rw [← hok1]; exact sKind (n, q, s) _ q0)
              have g0 := cell_regrown f0
              have g1 := cell_regrown f1
              have g2 := cell_regrown f2
              have y0 := cell_regrown x0
              clear f0 f1 f2
              clear hok1
              go_wp2_with fail
              clear x0
              refine Leg.wp_region_qw (by kernel_rfl) (by kernel_rfl) ?_
              refine Leg.QW.want (by kernel_rfl) (fun K hK => ?_)
              go_big_quiet_op
              refine hK _ ?_
              clear hK K
              refine Leg.QW.want (by kernel_rfl) (fun K hK => ?_)
              go_big_quiet_op
              refine hK _ ?_
              clear hK K
              refine Leg.QW.want (by kernel_rfl) (fun K hK => ?_)
              go_big_quiet_op
              refine hK _ ?_
              clear hK K
              refine Leg.QW.want (by kernel_rfl) (fun K hK => ?_)
              go_big_quiet_op
              refine hK _ ?_
              clear hK K
              refine Leg.QW.want (by kernel_rfl) (fun K hK => ?_)
              go_big_quiet_op
              refine hK _ ?_
              clear hK K
              refine Leg.QW.want (by kernel_rfl) (fun K hK => ?_)
              go_big_quiet_op
              refine ⟨_, fun _ => cA _ _, hK _ ?_⟩
              clear hK K
              refine Leg.QW.want (by kernel_rfl) (fun K hK => ?_)
              go_big_quiet_op
              refine hK _ ?_
              clear hK K
              refine Leg.QW.want (by kernel_rfl) (fun K hK => ?_)
              go_big_quiet_op
              refine hK _ ?_
              clear hK K
              refine Leg.QW.want (by kernel_rfl) (fun K hK => ?_)
              go_big_quiet_op
              refine hK _ ?_
              clear hK K
              refine Leg.QW.want (by kernel_rfl) (fun K hK => ?_)
              go_big_quiet_op
              refine hK _ ?_
              clear hK K
              refine Leg.QW.want (by kernel_rfl) (fun K hK => ?_)
              go_big_quiet_op
              refine hK _ ?_
              clear hK K
              refine Leg.QW.skip (by kernel_rfl) ?_
              refine Leg.QW.skip (by kernel_rfl) ?_
              refine Leg.QW.skip (by kernel_rfl) ?_
              refine Leg.QW.skip (by kernel_rfl) ?_
              refine Leg.QW.skip (by kernel_rfl) ?_
              refine Leg.QW.skip (by kernel_rfl) ?_
              refine Leg.QW.skip (by kernel_rfl) ?_
              refine Leg.QW.skip (by kernel_rfl) ?_
              refine Leg.QW.skip (by kernel_rfl) ?_
              refine Leg.QW.skip (by kernel_rfl) ?_
              refine Leg.QW.skip (by kernel_rfl) ?_
              refine Leg.QW.skip (by kernel_rfl) ?_
              refine Leg.QW.skip (by kernel_rfl) ?_
              refine Leg.QW.skip (by kernel_rfl) ?_
              refine Leg.QW.want (by kernel_rfl) (fun K hK => ?_)
              go_simp
              refine hK _ ?_
              clear hK K
              refine Leg.QW.want (by kernel_rfl) (fun K hK => ?_)
              go_big_quiet_op
              refine hK _ ?_
              clear hK K
              refine Leg.QW.nil ?_
              intro _ hw'
              obtain ⟨⟨dq, osq⟩, hw''⟩ := hw'
              subst hw''
              have hbq := hbel.trans ((below_regrown wr dq osq).mono hbs)
              clear hbel hB hsz hbs cA g0 g1 g2 y0
              generalize grow (redrawn wr dq) osq = w9 at hbq ⊢
              go_wp2
              go_roundw
              case rel => exact ⟨k + 1, by omega, by go_num, HN1, hbq⟩
              case measure => simp [intOf]; omega
          · have hok1 := pb_no hok0
            have HF : Hid (pb (BaseOk (ks, ps)) = false) := HNO.out hok0
            clear HNO HYES HASC hok0
            have cA : ∀ dd os, Calls Tryz.prog 91 #[.agg #[.string n, .int .i64 q, .int .i64 s]] (grow (redrawn wr dd) os) (fun e w'' => e = .returned (.bool false) ∧ ∃ p : Regrown, w'' = grow (redrawn wr p.d) p.os) := fun dd os => Calls.regrown_of (by rw [← hok1]; exact sKind (n, q, s) _ q0)
            have g0 := cell_regrown f0
            have g1 := cell_regrown f1
            have g2 := cell_regrown f2
            have y0 := cell_regrown x0
            clear f0 f1 f2
            clear hok1
            go_wp2_with fail
            clear x0
            refine Leg.wp_region_qw (by kernel_rfl) (by kernel_rfl) ?_
            refine Leg.QW.want (by kernel_rfl) (fun K hK => ?_)
            go_big_quiet_op
            refine hK _ ?_
            clear hK K
            refine Leg.QW.want (by kernel_rfl) (fun K hK => ?_)
            go_big_quiet_op
            refine hK _ ?_
            clear hK K
            refine Leg.QW.want (by kernel_rfl) (fun K hK => ?_)
            go_big_quiet_op
            refine hK _ ?_
            clear hK K
            refine Leg.QW.want (by kernel_rfl) (fun K hK => ?_)
            go_big_quiet_op
            refine hK _ ?_
            clear hK K
            refine Leg.QW.want (by kernel_rfl) (fun K hK => ?_)
            go_big_quiet_op
            refine hK _ ?_
            clear hK K
            refine Leg.QW.want (by kernel_rfl) (fun K hK => ?_)
            go_big_quiet_op
            refine ⟨_, fun _ => cA _ _, hK _ ?_⟩
            clear hK K
            refine Leg.QW.want (by kernel_rfl) (fun K hK => ?_)
            go_big_quiet_op
            refine hK _ ?_
            clear hK K
            refine Leg.QW.want (by kernel_rfl) (fun K hK => ?_)
            go_big_quiet_op
            refine hK _ ?_
            clear hK K
            refine Leg.QW.skip (by kernel_rfl) ?_
            refine Leg.QW.skip (by kernel_rfl) ?_
            refine Leg.QW.skip (by kernel_rfl) ?_
            refine Leg.QW.skip (by kernel_rfl) ?_
            refine Leg.QW.skip (by kernel_rfl) ?_
            refine Leg.QW.skip (by kernel_rfl) ?_
            refine Leg.QW.skip (by kernel_rfl) ?_
            refine Leg.QW.skip (by kernel_rfl) ?_
            refine Leg.QW.skip (by kernel_rfl) ?_
            refine Leg.QW.skip (by kernel_rfl) ?_
            refine Leg.QW.skip (by kernel_rfl) ?_
            refine Leg.QW.skip (by kernel_rfl) ?_
            refine Leg.QW.skip (by kernel_rfl) ?_
            refine Leg.QW.skip (by kernel_rfl) ?_
            refine Leg.QW.skip (by kernel_rfl) ?_
            refine Leg.QW.skip (by kernel_rfl) ?_
            refine Leg.QW.skip (by kernel_rfl) ?_
            refine Leg.QW.skip (by kernel_rfl) ?_
            refine Leg.QW.want (by kernel_rfl) (fun K hK => ?_)
            go_simp
            refine hK _ ?_
            clear hK K
            refine Leg.QW.nil ?_
            intro _ hw'
            obtain ⟨⟨dq, osq⟩, hw''⟩ := hw'
            subst hw''
            have hbq := hbel.trans ((below_regrown wr dq osq).mono hbs)
            clear hbel hB hsz hbs cA g0 g1 g2 y0
            generalize grow (redrawn wr dq) osq = w9 at hbq ⊢
            have hBq := box_under hbq
            go_wp2
            go_ret
            exact ⟨by rw [HF.out]; rfl, hBq⟩
        · have HK : Hid (RowTo KindOk (fun x : DPlanKind => x.1) ks ks.length) := (show k = ks.length by omega) ▸ hpre.out
          clear hpre
          obtain ⟨wo, hwo⟩ : ∃ x, x = wr := ⟨wr, rfl⟩
          subst hwo
          go_wp2
          go_loopw [4] (fun i wr => ∃ k : Nat, k ≤ ps.length ∧ i = .int .i64 k ∧ Hid (RowTo PtOk (fun x : DPlanPoint => x.1) ps k ∧ ApartTo ps k) ∧ Below (w.heap.size + 1) (w.alloc (.cells #[.slice ao0 ks.length cap0, .slice ao1 ps.length cap1] 40)) wr) (fun i _ => ps.length - (intOf i).toNat)
          case atStart => exact ⟨0, Nat.zero_le _, rfl, ⟨RowTo.zero, ApartTo.zero⟩, hbel⟩
          case round =>
            clear hbel hB hsz hbs x0
            obtain ⟨k, hk, rfl, hpre, hbel⟩ := hrel
            have hB := box_under hbel
            have x1 := box_at hbel 1
            simp at x1
            have hsz : w.heap.size < wr.heap.size := by have := hbel.size; simp at this; omega
            have hbs : w.heap.size + 1 ≤ wr.heap.size := hsz
            by_cases hlt : k < ps.length
            · have hk1 : k - 1 < ps.length := by omega
              obtain ⟨b, off, rfl, hok, c0, c1, c2, q0, _⟩ := elem_PlanPoint h1 hlt
              have f0 := (hB.cell (p := ⟨b, off + k * 3, none⟩) hok).trans c0
              have f1 := (hB.cell (p := ⟨b, off + k * 3 + 1, none⟩) hok).trans c1
              have f2 := (hB.cell (p := ⟨b, off + k * 3 + 2, none⟩) hok).trans c2
              clear c0 c1 c2
              have hkI : (k : Int) < (ps.length : Int) := by omega
              obtain ⟨n, q, s, hcur⟩ : ∃ n q s, ps[k]'hlt = (n, q, s) := ⟨_, _, _, rfl⟩
              have HNO : Hid (¬ PtOk (n, q, s) → pb (BaseOk (ks, ps)) = false) := fun h1 => pb_no (fun h2 => h1 (hcur ▸ (h2.2.2.1 k hlt hlt).1))
              have HYES : Hid (PtOk (n, q, s) → (∀ h0 : 0 < k, SLess (ps[k - 1]'hk1).1 n) → RowTo PtOk (fun x : DPlanPoint => x.1) ps (k + 1)) := fun h1 h2 => hpre.out.1.next hlt (hcur ▸ h1) (fun h0 => by have := h2 h0; rw [hcur]; exact this)
              have HASC : Hid (∀ h0 : 0 < k, ¬ SLess (ps[k - 1]'hk1).1 n → pb (BaseOk (ks, ps)) = false) := fun h0 h1 => pb_no (fun h2 => h1 (by have := (h2.2.2.1 k hlt hlt).2 h0; rw [hcur] at this; exact this))
              have HAP : Hid (ApartTo ps k) := hpre.out.2
              rw [hcur] at f0 f1 f2 q0
              simp only at f0 f1 f2 q0
              clear hcur hpre
              by_cases hok0 : PtOk (n, q, s)
              · have hok1 := pb_yes hok0
                by_cases hk0 : 0 < k
                · obtain ⟨b', off', hbo, _, d0, d1, d2, _⟩ := elem_PlanPoint h1 hk1
                  cases hbo
                  have p0 := (hB.cell (p := ⟨b, off + (k - 1) * 3, none⟩) hok).trans d0
                  clear d0 d1 d2
                  have hd0 : decide ((0 : Int) < (k : Int)) = true := by simp; omega
                  have hkI1 : (k : Int) - 1 < (ps.length : Int) := by omega
                  have hkN : ((k : Int) - 1).toNat = k - 1 := by omega
                  have hk1I : (1 : Int) ≤ (k : Int) := by omega
                  have hkW : IntKind.i64.wrap ((k : Int) - 1) = (k : Int) - 1 := by rw [IntKind.wrap_i64]; all_goals omega
                  by_cases hasc : SLess (ps[k - 1]'hk1).1 n
                  · have HN1 : Hid (RowTo PtOk (fun x : DPlanPoint => x.1) ps (k + 1)) := HYES.out hok0 (fun _ => hasc)
                    clear HNO HYES HASC hok0
                    generalize (ps[k - 1]'hk1).1 = n' at p0 hasc
                    have hlb : Op.bytesLess n'.toList n.toList = true := hasc
                    clear hasc
                    have cA : ∀ dd os, Calls Tryz.prog 92 #[.agg #[.string n, .int .i64 q, .int .i64 s]] (grow (redrawn wr dd) os) (fun e w'' => e = .returned (.bool true) ∧ ∃ p : Regrown, w'' = grow (redrawn wr p.d) p.os) := fun dd os => Calls.regrown_of (by rw [← hok1]; exact sPt (n, q, s) _ q0)
                    have g0 := cell_regrown f0
                    have g1 := cell_regrown f1
                    have g2 := cell_regrown f2
                    have y0 := cell_regrown x1
                    clear f0 f1 f2
                    have t0 := cell_regrown p0
                    clear p0
                    clear hok1
                    go_wp2_with fail
                    clear x1
                    refine Leg.wp_region_qw (by kernel_rfl) (by kernel_rfl) ?_
                    refine Leg.QW.want (by kernel_rfl) (fun K hK => ?_)
                    go_big_quiet_op
                    refine hK _ ?_
                    clear hK K
                    refine Leg.QW.want (by kernel_rfl) (fun K hK => ?_)
                    go_big_quiet_op
                    refine hK _ ?_
                    clear hK K
                    refine Leg.QW.want (by kernel_rfl) (fun K hK => ?_)
                    go_big_quiet_op
                    refine hK _ ?_
                    clear hK K
                    refine Leg.QW.want (by kernel_rfl) (fun K hK => ?_)
                    go_big_quiet_op
                    refine hK _ ?_
                    clear hK K
                    refine Leg.QW.want (by kernel_rfl) (fun K hK => ?_)
                    go_big_quiet_op
                    refine hK _ ?_
                    clear hK K
                    refine Leg.QW.want (by kernel_rfl) (fun K hK => ?_)
                    go_big_quiet_op
                    refine ⟨_, fun _ => cA _ _, hK _ ?_⟩
                    clear hK K
                    refine Leg.QW.want (by kernel_rfl) (fun K hK => ?_)
                    go_big_quiet_op
                    refine hK _ ?_
                    clear hK K
                    refine Leg.QW.want (by kernel_rfl) (fun K hK => ?_)
                    go_big_quiet_op
                    refine hK _ ?_
                    clear hK K
                    refine Leg.QW.want (by kernel_rfl) (fun K hK => ?_)
                    go_big_quiet_op
                    refine hK _ ?_
                    clear hK K
                    refine Leg.QW.want (by kernel_rfl) (fun K hK => ?_)
                    go_big_quiet_op
                    refine hK _ ?_
                    clear hK K
                    refine Leg.QW.want (by kernel_rfl) (fun K hK => ?_)
                    go_big_quiet_op
                    refine hK _ ?_
                    clear hK K
                    refine Leg.QW.want (by kernel_rfl) (fun K hK => ?_)
                    go_big_quiet_op
                    refine hK _ ?_
                    clear hK K
                    refine Leg.QW.want (by kernel_rfl) (fun K hK => ?_)
                    go_big_quiet_op
                    refine hK _ ?_
                    clear hK K
                    refine Leg.QW.want (by kernel_rfl) (fun K hK => ?_)
                    go_big_quiet_op
                    refine hK _ ?_
                    clear hK K
                    refine Leg.QW.want (by kernel_rfl) (fun K hK => ?_)
                    go_big_quiet_op
                    refine hK _ ?_
                    clear hK K
                    refine Leg.QW.want (by kernel_rfl) (fun K hK => ?_)
                    go_big_quiet_op
                    refine hK _ ?_
                    clear hK K
                    refine Leg.QW.want (by kernel_rfl) (fun K hK => ?_)
                    go_big_quiet_op
                    refine hK _ ?_
                    clear hK K
                    refine Leg.QW.want (by kernel_rfl) (fun K hK => ?_)
                    go_big_quiet_op
                    refine hK _ ?_
                    clear hK K
                    refine Leg.QW.want (by kernel_rfl) (fun K hK => ?_)
                    go_big_quiet_op
                    refine hK _ ?_
                    clear hK K
                    refine Leg.QW.want (by kernel_rfl) (fun K hK => ?_)
                    go_big_quiet_op
                    refine hK _ ?_
                    clear hK K
                    refine Leg.QW.want (by kernel_rfl) (fun K hK => ?_)
                    go_big_quiet_op
                    refine hK _ ?_
                    clear hK K
                    refine Leg.QW.want (by kernel_rfl) (fun K hK => ?_)
                    go_big_quiet_op
                    refine hK _ ?_
                    clear hK K
                    refine Leg.QW.want (by kernel_rfl) (fun K hK => ?_)
                    go_big_quiet_op
                    refine hK _ ?_
                    clear hK K
                    refine Leg.QW.want (by kernel_rfl) (fun K hK => ?_)
                    go_big_quiet_op
                    refine hK _ ?_
                    clear hK K
                    refine Leg.QW.want (by kernel_rfl) (fun K hK => ?_)
                    go_big_quiet_op
                    refine hK _ ?_
                    clear hK K
                    refine Leg.QW.want (by kernel_rfl) (fun K hK => ?_)
                    go_big_quiet_op
                    refine hK _ ?_
                    clear hK K
                    refine Leg.QW.want (by kernel_rfl) (fun K hK => ?_)
                    go_big_quiet_op
                    refine hK _ ?_
                    clear hK K
                    refine Leg.QW.nil ?_
                    intro _ hw'
                    obtain ⟨⟨dq, osq⟩, hw''⟩ := hw'
                    subst hw''
                    have hbq := hbel.trans ((below_regrown wr dq osq).mono hbs)
                    clear hbel hB hsz hbs cA g0 g1 g2 y0
                    clear t0
                    generalize grow (redrawn wr dq) osq = w9 at hbq ⊢
                    go_wp2
                    go_loopw [5] (fun j w2 => ∃ m : Nat, m ≤ k ∧ j = .int .i64 m ∧ Hid (NoneAt ps k m) ∧ Below (w.heap.size + 1) (w.alloc (.cells #[.slice ao0 ks.length cap0, .slice (some ⟨b, off, none⟩) ps.length cap1] 40)) w2) (fun j _ => k - (intOf j).toNat)
                    case atStart => exact ⟨0, Nat.zero_le _, rfl, fun t _ _ ht => by omega, hbq⟩
                    case round =>
                      clear hbq
                      obtain ⟨m, hm, rfl, hno, hb2⟩ := hrel
                      have hB2 := box_under hb2
                      have z1 := box_at hb2 1
                      simp at z1
                      have hsz2 : w.heap.size < wr.heap.size := by have := hb2.size; simp at this; omega
                      by_cases hmk : m < k
                      · have hml : m < ps.length := by omega
                        have hmI : (m : Int) < (ps.length : Int) := by omega
                        obtain ⟨b', off', hbo, _, _, g1, g2, _⟩ := elem_PlanPoint h1 hml
                        cases hbo
                        obtain ⟨b', off', hbo, _, _, g1', g2', _⟩ := elem_PlanPoint h1 hlt
                        cases hbo
                        have e1 := (hB2.cell (p := ⟨b, off + m * 3 + 1, none⟩) hok).trans g1
                        have e2 := (hB2.cell (p := ⟨b, off + m * 3 + 2, none⟩) hok).trans g2
                        have d1 := (hB2.cell (p := ⟨b, off + k * 3 + 1, none⟩) hok).trans g1'
                        have d2 := (hB2.cell (p := ⟨b, off + k * 3 + 2, none⟩) hok).trans g2'
                        clear g1 g2 g1' g2'
                        have HIT : Hid ((ps[m]'hml).2.1 = (ps[k]'hlt).2.1 → (ps[m]'hml).2.2 = (ps[k]'hlt).2.2 → pb (BaseOk (ks, ps)) = false) := fun a1 a2 => pb_no (fun h => h.2.2.2 k hlt m hml hlt hmk ⟨a1, a2⟩)
                        have HMISS : Hid (¬ ((ps[m]'hml).2.1 = (ps[k]'hlt).2.1 ∧ (ps[m]'hml).2.2 = (ps[k]'hlt).2.2) → NoneAt ps k (m + 1)) := fun a1 t ht hkk a2 a3 => by
                          by_cases e : t = m
                          · subst e; exact a1 a3
                          · exact hno.out t ht hkk (by omega) a3
                        clear hno hB2
                        generalize (ps[m]'hml).2.1 = mx at *
                        generalize (ps[m]'hml).2.2 = my at *
                        generalize (ps[k]'hlt).2.1 = kx at *
                        generalize (ps[k]'hlt).2.2 = ky at *
                        by_cases hX : mx = kx
                        · have hXb : (mx == kx) = true := beq_iff_eq.2 hX
                          by_cases hY : my = ky
                          · have hYb : (my == ky) = true := beq_iff_eq.2 hY
                            have HF : Hid (pb (BaseOk (ks, ps)) = false) := HIT.out hX hY
                            clear HIT HMISS hX hY
                            have g1 := cell_regrown e1
                            have g2 := cell_regrown e2
                            have t1 := cell_regrown d1
                            have t2 := cell_regrown d2
                            have y1 := cell_regrown z1
                            clear e1 e2 d1 d2 z1
                            go_wp2_with fail
                            refine Leg.wp_region_qw (by kernel_rfl) (by kernel_rfl) ?_
                            refine Leg.QW.want (by kernel_rfl) (fun K hK => ?_)
                            go_big_quiet_op
                            refine hK _ ?_
                            clear hK K
                            refine Leg.QW.want (by kernel_rfl) (fun K hK => ?_)
                            go_big_quiet_op
                            refine hK _ ?_
                            clear hK K
                            refine Leg.QW.want (by kernel_rfl) (fun K hK => ?_)
                            go_big_quiet_op
                            refine hK _ ?_
                            clear hK K
                            refine Leg.QW.want (by kernel_rfl) (fun K hK => ?_)
                            go_big_quiet_op
                            refine hK _ ?_
                            clear hK K
                            refine Leg.QW.want (by kernel_rfl) (fun K hK => ?_)
                            go_big_quiet_op
                            refine hK _ ?_
                            clear hK K
                            refine Leg.QW.want (by kernel_rfl) (fun K hK => ?_)
                            go_big_quiet_op
                            refine hK _ ?_
                            clear hK K
                            refine Leg.QW.want (by kernel_rfl) (fun K hK => ?_)
                            go_big_quiet_op
                            refine hK _ ?_
                            clear hK K
                            refine Leg.QW.want (by kernel_rfl) (fun K hK => ?_)
                            go_big_quiet_op
                            refine hK _ ?_
                            clear hK K
                            refine Leg.QW.want (by kernel_rfl) (fun K hK => ?_)
                            go_big_quiet_op
                            refine hK _ ?_
                            clear hK K
                            refine Leg.QW.want (by kernel_rfl) (fun K hK => ?_)
                            go_big_quiet_op
                            refine hK _ ?_
                            clear hK K
                            refine Leg.QW.want (by kernel_rfl) (fun K hK => ?_)
                            go_big_quiet_op
                            refine hK _ ?_
                            clear hK K
                            refine Leg.QW.want (by kernel_rfl) (fun K hK => ?_)
                            go_big_quiet_op
                            refine hK _ ?_
                            clear hK K
                            refine Leg.QW.want (by kernel_rfl) (fun K hK => ?_)
                            go_big_quiet_op
                            refine hK _ ?_
                            clear hK K
                            refine Leg.QW.want (by kernel_rfl) (fun K hK => ?_)
                            go_big_quiet_op
                            refine hK _ ?_
                            clear hK K
                            refine Leg.QW.want (by kernel_rfl) (fun K hK => ?_)
                            go_big_quiet_op
                            refine hK _ ?_
                            clear hK K
                            refine Leg.QW.want (by kernel_rfl) (fun K hK => ?_)
                            go_big_quiet_op
                            refine hK _ ?_
                            clear hK K
                            refine Leg.QW.want (by kernel_rfl) (fun K hK => ?_)
                            go_big_quiet_op
                            refine hK _ ?_
                            clear hK K
                            refine Leg.QW.want (by kernel_rfl) (fun K hK => ?_)
                            go_big_quiet_op
                            refine hK _ ?_
                            clear hK K
                            refine Leg.QW.want (by kernel_rfl) (fun K hK => ?_)
                            go_big_quiet_op
                            refine hK _ ?_
                            clear hK K
                            refine Leg.QW.want (by kernel_rfl) (fun K hK => ?_)
                            go_big_quiet_op
                            refine hK _ ?_
                            clear hK K
                            refine Leg.QW.want (by kernel_rfl) (fun K hK => ?_)
                            go_big_quiet_op
                            refine hK _ ?_
                            clear hK K
                            refine Leg.QW.want (by kernel_rfl) (fun K hK => ?_)
                            go_big_quiet_op
                            refine hK _ ?_
                            clear hK K
                            refine Leg.QW.want (by kernel_rfl) (fun K hK => ?_)
                            go_big_quiet_op
                            refine hK _ ?_
                            clear hK K
                            refine Leg.QW.want (by kernel_rfl) (fun K hK => ?_)
                            go_big_quiet_op
                            refine hK _ ?_
                            clear hK K
                            refine Leg.QW.want (by kernel_rfl) (fun K hK => ?_)
                            go_big_quiet_op
                            refine hK _ ?_
                            clear hK K
                            refine Leg.QW.want (by kernel_rfl) (fun K hK => ?_)
                            go_big_quiet_op
                            refine hK _ ?_
                            clear hK K
                            refine Leg.QW.want (by kernel_rfl) (fun K hK => ?_)
                            go_big_quiet_op
                            refine hK _ ?_
                            clear hK K
                            refine Leg.QW.want (by kernel_rfl) (fun K hK => ?_)
                            go_big_quiet_op
                            refine hK _ ?_
                            clear hK K
                            refine Leg.QW.nil ?_
                            intro _ hw'
                            obtain ⟨⟨dq, osq⟩, hw''⟩ := hw'
                            subst hw''
                            have hbq2 := hb2.trans ((below_regrown wr dq osq).mono (by have := hb2.size; simp at this; omega))
                            clear hb2 g1 g2 t1 t2 y1
                            generalize grow (redrawn wr dq) osq = w8 at hbq2 ⊢
                            have hBq := box_under hbq2
                            go_wp2
                            go_ret
                            exact ⟨by rw [HF.out]; rfl, hBq⟩
                          · have hYb : (my == ky) = false := by simpa using hY
                            have HM : Hid (NoneAt ps k (m + 1)) := HMISS.out (fun h => hY h.2)
                            clear HIT HMISS hX hY
                            have g1 := cell_regrown e1
                            have g2 := cell_regrown e2
                            have t1 := cell_regrown d1
                            have t2 := cell_regrown d2
                            have y1 := cell_regrown z1
                            clear e1 e2 d1 d2 z1
                            go_wp2_with fail
                            refine Leg.wp_region_qw (by kernel_rfl) (by kernel_rfl) ?_
                            refine Leg.QW.want (by kernel_rfl) (fun K hK => ?_)
                            go_big_quiet_op
                            refine hK _ ?_
                            clear hK K
                            refine Leg.QW.want (by kernel_rfl) (fun K hK => ?_)
                            go_big_quiet_op
                            refine hK _ ?_
                            clear hK K
                            refine Leg.QW.want (by kernel_rfl) (fun K hK => ?_)
                            go_big_quiet_op
                            refine hK _ ?_
                            clear hK K
                            refine Leg.QW.want (by kernel_rfl) (fun K hK => ?_)
                            go_big_quiet_op
                            refine hK _ ?_
                            clear hK K
                            refine Leg.QW.want (by kernel_rfl) (fun K hK => ?_)
                            go_big_quiet_op
                            refine hK _ ?_
                            clear hK K
                            refine Leg.QW.want (by kernel_rfl) (fun K hK => ?_)
                            go_big_quiet_op
                            refine hK _ ?_
                            clear hK K
                            refine Leg.QW.want (by kernel_rfl) (fun K hK => ?_)
                            go_big_quiet_op
                            refine hK _ ?_
                            clear hK K
                            refine Leg.QW.want (by kernel_rfl) (fun K hK => ?_)
                            go_big_quiet_op
                            refine hK _ ?_
                            clear hK K
                            refine Leg.QW.want (by kernel_rfl) (fun K hK => ?_)
                            go_big_quiet_op
                            refine hK _ ?_
                            clear hK K
                            refine Leg.QW.want (by kernel_rfl) (fun K hK => ?_)
                            go_big_quiet_op
                            refine hK _ ?_
                            clear hK K
                            refine Leg.QW.want (by kernel_rfl) (fun K hK => ?_)
                            go_big_quiet_op
                            refine hK _ ?_
                            clear hK K
                            refine Leg.QW.want (by kernel_rfl) (fun K hK => ?_)
                            go_big_quiet_op
                            refine hK _ ?_
                            clear hK K
                            refine Leg.QW.want (by kernel_rfl) (fun K hK => ?_)
                            go_big_quiet_op
                            refine hK _ ?_
                            clear hK K
                            refine Leg.QW.want (by kernel_rfl) (fun K hK => ?_)
                            go_big_quiet_op
                            refine hK _ ?_
                            clear hK K
                            refine Leg.QW.want (by kernel_rfl) (fun K hK => ?_)
                            go_big_quiet_op
                            refine hK _ ?_
                            clear hK K
                            refine Leg.QW.want (by kernel_rfl) (fun K hK => ?_)
                            go_big_quiet_op
                            refine hK _ ?_
                            clear hK K
                            refine Leg.QW.want (by kernel_rfl) (fun K hK => ?_)
                            go_big_quiet_op
                            refine hK _ ?_
                            clear hK K
                            refine Leg.QW.want (by kernel_rfl) (fun K hK => ?_)
                            go_big_quiet_op
                            refine hK _ ?_
                            clear hK K
                            refine Leg.QW.want (by kernel_rfl) (fun K hK => ?_)
                            go_big_quiet_op
                            refine hK _ ?_
                            clear hK K
                            refine Leg.QW.want (by kernel_rfl) (fun K hK => ?_)
                            go_big_quiet_op
                            refine hK _ ?_
                            clear hK K
                            refine Leg.QW.want (by kernel_rfl) (fun K hK => ?_)
                            go_big_quiet_op
                            refine hK _ ?_
                            clear hK K
                            refine Leg.QW.want (by kernel_rfl) (fun K hK => ?_)
                            go_big_quiet_op
                            refine hK _ ?_
                            clear hK K
                            refine Leg.QW.want (by kernel_rfl) (fun K hK => ?_)
                            go_big_quiet_op
                            refine hK _ ?_
                            clear hK K
                            refine Leg.QW.want (by kernel_rfl) (fun K hK => ?_)
                            go_big_quiet_op
                            refine hK _ ?_
                            clear hK K
                            refine Leg.QW.want (by kernel_rfl) (fun K hK => ?_)
                            go_big_quiet_op
                            refine hK _ ?_
                            clear hK K
                            refine Leg.QW.want (by kernel_rfl) (fun K hK => ?_)
                            go_big_quiet_op
                            refine hK _ ?_
                            clear hK K
                            refine Leg.QW.want (by kernel_rfl) (fun K hK => ?_)
                            go_big_quiet_op
                            refine hK _ ?_
                            clear hK K
                            refine Leg.QW.want (by kernel_rfl) (fun K hK => ?_)
                            go_big_quiet_op
                            refine hK _ ?_
                            clear hK K
                            refine Leg.QW.nil ?_
                            intro _ hw'
                            obtain ⟨⟨dq, osq⟩, hw''⟩ := hw'
                            subst hw''
                            have hbq2 := hb2.trans ((below_regrown wr dq osq).mono (by have := hb2.size; simp at this; omega))
                            clear hb2 g1 g2 t1 t2 y1
                            generalize grow (redrawn wr dq) osq = w8 at hbq2 ⊢
                            go_wp2
                            go_roundw
                            case rel => exact ⟨m + 1, by omega, by go_num, HM, hbq2⟩
                            case measure => simp [intOf]; omega
                        · have hXb : (mx == kx) = false := by simpa using hX
                          have HM : Hid (NoneAt ps k (m + 1)) := HMISS.out (fun h => hX h.1)
                          clear HIT HMISS hX
                          have g1 := cell_regrown e1
                          have g2 := cell_regrown e2
                          have t1 := cell_regrown d1
                          have t2 := cell_regrown d2
                          have y1 := cell_regrown z1
                          clear e1 e2 d1 d2 z1
                          go_wp2_with fail
                          refine Leg.wp_region_qw (by kernel_rfl) (by kernel_rfl) ?_
                          refine Leg.QW.want (by kernel_rfl) (fun K hK => ?_)
                          go_big_quiet_op
                          refine hK _ ?_
                          clear hK K
                          refine Leg.QW.want (by kernel_rfl) (fun K hK => ?_)
                          go_big_quiet_op
                          refine hK _ ?_
                          clear hK K
                          refine Leg.QW.want (by kernel_rfl) (fun K hK => ?_)
                          go_big_quiet_op
                          refine hK _ ?_
                          clear hK K
                          refine Leg.QW.want (by kernel_rfl) (fun K hK => ?_)
                          go_big_quiet_op
                          refine hK _ ?_
                          clear hK K
                          refine Leg.QW.want (by kernel_rfl) (fun K hK => ?_)
                          go_big_quiet_op
                          refine hK _ ?_
                          clear hK K
                          refine Leg.QW.want (by kernel_rfl) (fun K hK => ?_)
                          go_big_quiet_op
                          refine hK _ ?_
                          clear hK K
                          refine Leg.QW.want (by kernel_rfl) (fun K hK => ?_)
                          go_big_quiet_op
                          refine hK _ ?_
                          clear hK K
                          refine Leg.QW.want (by kernel_rfl) (fun K hK => ?_)
                          go_big_quiet_op
                          refine hK _ ?_
                          clear hK K
                          refine Leg.QW.want (by kernel_rfl) (fun K hK => ?_)
                          go_big_quiet_op
                          refine hK _ ?_
                          clear hK K
                          refine Leg.QW.want (by kernel_rfl) (fun K hK => ?_)
                          go_big_quiet_op
                          refine hK _ ?_
                          clear hK K
                          refine Leg.QW.want (by kernel_rfl) (fun K hK => ?_)
                          go_big_quiet_op
                          refine hK _ ?_
                          clear hK K
                          refine Leg.QW.want (by kernel_rfl) (fun K hK => ?_)
                          go_big_quiet_op
                          refine hK _ ?_
                          clear hK K
                          refine Leg.QW.want (by kernel_rfl) (fun K hK => ?_)
                          go_big_quiet_op
                          refine hK _ ?_
                          clear hK K
                          refine Leg.QW.want (by kernel_rfl) (fun K hK => ?_)
                          go_big_quiet_op
                          refine hK _ ?_
                          clear hK K
                          refine Leg.QW.skip (by kernel_rfl) ?_
                          refine Leg.QW.skip (by kernel_rfl) ?_
                          refine Leg.QW.skip (by kernel_rfl) ?_
                          refine Leg.QW.skip (by kernel_rfl) ?_
                          refine Leg.QW.skip (by kernel_rfl) ?_
                          refine Leg.QW.skip (by kernel_rfl) ?_
                          refine Leg.QW.skip (by kernel_rfl) ?_
                          refine Leg.QW.skip (by kernel_rfl) ?_
                          refine Leg.QW.skip (by kernel_rfl) ?_
                          refine Leg.QW.skip (by kernel_rfl) ?_
                          refine Leg.QW.skip (by kernel_rfl) ?_
                          refine Leg.QW.skip (by kernel_rfl) ?_
                          refine Leg.QW.skip (by kernel_rfl) ?_
                          refine Leg.QW.want (by kernel_rfl) (fun K hK => ?_)
                          go_simp
                          refine hK _ ?_
                          clear hK K
                          refine Leg.QW.nil ?_
                          intro _ hw'
                          obtain ⟨⟨dq, osq⟩, hw''⟩ := hw'
                          subst hw''
                          have hbq2 := hb2.trans ((below_regrown wr dq osq).mono (by have := hb2.size; simp at this; omega))
                          clear hb2 g1 g2 t1 t2 y1
                          generalize grow (redrawn wr dq) osq = w8 at hbq2 ⊢
                          go_wp2
                          go_roundw
                          case rel => exact ⟨m + 1, by omega, by go_num, HM, hbq2⟩
                          case measure => simp [intOf]; omega
                      · have HA : Hid (RowTo PtOk (fun x : DPlanPoint => x.1) ps (k + 1) ∧ ApartTo ps (k + 1)) := ⟨HN1.out, HAP.out.next ((show m = k by omega) ▸ hno.out)⟩
                        clear hno z1
                        go_wp2
                        go_roundw
                        case rel => exact ⟨k + 1, by omega, by go_num, HA, hb2⟩
                        case measure => simp [intOf]; omega
                  · have HF : Hid (pb (BaseOk (ks, ps)) = false) := HASC.out hk0 hasc
                    clear HNO HYES HASC hok0
                    generalize (ps[k - 1]'hk1).1 = n' at p0 hasc
                    have hlb : Op.bytesLess n'.toList n.toList = false := by unfold SLess at hasc; simpa using hasc
                    clear hasc
                    have cA : ∀ dd os, Calls Tryz.prog 92 #[.agg #[.string n, .int .i64 q, .int .i64 s]] (grow (redrawn wr dd) os) (fun e w'' => e = .returned (.bool true) ∧ ∃ p : Regrown, w'' = grow (redrawn wr p.d) p.os) := fun dd os => Calls.regrown_of (by rw [← hok1]; exact sPt (n, q, s) _ q0)
                    have g0 := cell_regrown f0
                    have g1 := cell_regrown f1
                    have g2 := cell_regrown f2
                    have y0 := cell_regrown x1
                    clear f0 f1 f2
                    have t0 := cell_regrown p0
                    clear p0
                    clear hok1
                    go_wp2_with fail
                    clear x1
                    refine Leg.wp_region_qw (by kernel_rfl) (by kernel_rfl) ?_
                    refine Leg.QW.want (by kernel_rfl) (fun K hK => ?_)
                    go_big_quiet_op
                    refine hK _ ?_
                    clear hK K
                    refine Leg.QW.want (by kernel_rfl) (fun K hK => ?_)
                    go_big_quiet_op
                    refine hK _ ?_
                    clear hK K
                    refine Leg.QW.want (by kernel_rfl) (fun K hK => ?_)
                    go_big_quiet_op
                    refine hK _ ?_
                    clear hK K
                    refine Leg.QW.want (by kernel_rfl) (fun K hK => ?_)
                    go_big_quiet_op
                    refine hK _ ?_
                    clear hK K
                    refine Leg.QW.want (by kernel_rfl) (fun K hK => ?_)
                    go_big_quiet_op
                    refine hK _ ?_
                    clear hK K
                    refine Leg.QW.want (by kernel_rfl) (fun K hK => ?_)
                    go_big_quiet_op
                    refine ⟨_, fun _ => cA _ _, hK _ ?_⟩
                    clear hK K
                    refine Leg.QW.want (by kernel_rfl) (fun K hK => ?_)
                    go_big_quiet_op
                    refine hK _ ?_
                    clear hK K
                    refine Leg.QW.want (by kernel_rfl) (fun K hK => ?_)
                    go_big_quiet_op
                    refine hK _ ?_
                    clear hK K
                    refine Leg.QW.want (by kernel_rfl) (fun K hK => ?_)
                    go_big_quiet_op
                    refine hK _ ?_
                    clear hK K
                    refine Leg.QW.want (by kernel_rfl) (fun K hK => ?_)
                    go_big_quiet_op
                    refine hK _ ?_
                    clear hK K
                    refine Leg.QW.want (by kernel_rfl) (fun K hK => ?_)
                    go_big_quiet_op
                    refine hK _ ?_
                    clear hK K
                    refine Leg.QW.want (by kernel_rfl) (fun K hK => ?_)
                    go_big_quiet_op
                    refine hK _ ?_
                    clear hK K
                    refine Leg.QW.want (by kernel_rfl) (fun K hK => ?_)
                    go_big_quiet_op
                    refine hK _ ?_
                    clear hK K
                    refine Leg.QW.want (by kernel_rfl) (fun K hK => ?_)
                    go_big_quiet_op
                    refine hK _ ?_
                    clear hK K
                    refine Leg.QW.want (by kernel_rfl) (fun K hK => ?_)
                    go_big_quiet_op
                    refine hK _ ?_
                    clear hK K
                    refine Leg.QW.want (by kernel_rfl) (fun K hK => ?_)
                    go_big_quiet_op
                    refine hK _ ?_
                    clear hK K
                    refine Leg.QW.want (by kernel_rfl) (fun K hK => ?_)
                    go_big_quiet_op
                    refine hK _ ?_
                    clear hK K
                    refine Leg.QW.want (by kernel_rfl) (fun K hK => ?_)
                    go_big_quiet_op
                    refine hK _ ?_
                    clear hK K
                    refine Leg.QW.want (by kernel_rfl) (fun K hK => ?_)
                    go_big_quiet_op
                    refine hK _ ?_
                    clear hK K
                    refine Leg.QW.want (by kernel_rfl) (fun K hK => ?_)
                    go_big_quiet_op
                    refine hK _ ?_
                    clear hK K
                    refine Leg.QW.want (by kernel_rfl) (fun K hK => ?_)
                    go_big_quiet_op
                    refine hK _ ?_
                    clear hK K
                    refine Leg.QW.want (by kernel_rfl) (fun K hK => ?_)
                    go_big_quiet_op
                    refine hK _ ?_
                    clear hK K
                    refine Leg.QW.want (by kernel_rfl) (fun K hK => ?_)
                    go_big_quiet_op
                    refine hK _ ?_
                    clear hK K
                    refine Leg.QW.want (by kernel_rfl) (fun K hK => ?_)
                    go_big_quiet_op
                    refine hK _ ?_
                    clear hK K
                    refine Leg.QW.want (by kernel_rfl) (fun K hK => ?_)
                    go_big_quiet_op
                    refine hK _ ?_
                    clear hK K
                    refine Leg.QW.want (by kernel_rfl) (fun K hK => ?_)
                    go_big_quiet_op
                    refine hK _ ?_
                    clear hK K
                    refine Leg.QW.want (by kernel_rfl) (fun K hK => ?_)
                    go_big_quiet_op
                    refine hK _ ?_
                    clear hK K
                    refine Leg.QW.nil ?_
                    intro _ hw'
                    obtain ⟨⟨dq, osq⟩, hw''⟩ := hw'
                    subst hw''
                    have hbq := hbel.trans ((below_regrown wr dq osq).mono hbs)
                    clear hbel hB hsz hbs cA g0 g1 g2 y0
                    clear t0
                    generalize grow (redrawn wr dq) osq = w9 at hbq ⊢
                    have hBq := box_under hbq
                    go_wp2
                    go_ret
                    exact ⟨by rw [HF.out]; rfl, hBq⟩
                · have hd0 : decide ((0 : Int) < (k : Int)) = false := by simp; omega
                  have HN1 : Hid (RowTo PtOk (fun x : DPlanPoint => x.1) ps (k + 1)) := HYES.out hok0 (fun h0 => absurd h0 hk0)
                  clear HNO HYES HASC hok0
                  have cA : ∀ dd os, Calls Tryz.prog 92 #[.agg #[.string n, .int .i64 q, .int .i64 s]] (grow (redrawn wr dd) os) (fun e w'' => e = .returned (.bool true) ∧ ∃ p : Regrown, w'' = grow (redrawn wr p.d) p.os) := fun dd os => Calls.regrown_of (by rw [← hok1]; exact sPt (n, q, s) _ q0)
                  have g0 := cell_regrown f0
                  have g1 := cell_regrown f1
                  have g2 := cell_regrown f2
                  have y0 := cell_regrown x1
                  clear f0 f1 f2
                  clear hok1
                  go_wp2_with fail
                  clear x1
                  refine Leg.wp_region_qw (by kernel_rfl) (by kernel_rfl) ?_
                  refine Leg.QW.want (by kernel_rfl) (fun K hK => ?_)
                  go_big_quiet_op
                  refine hK _ ?_
                  clear hK K
                  refine Leg.QW.want (by kernel_rfl) (fun K hK => ?_)
                  go_big_quiet_op
                  refine hK _ ?_
                  clear hK K
                  refine Leg.QW.want (by kernel_rfl) (fun K hK => ?_)
                  go_big_quiet_op
                  refine hK _ ?_
                  clear hK K
                  refine Leg.QW.want (by kernel_rfl) (fun K hK => ?_)
                  go_big_quiet_op
                  refine hK _ ?_
                  clear hK K
                  refine Leg.QW.want (by kernel_rfl) (fun K hK => ?_)
                  go_big_quiet_op
                  refine hK _ ?_
                  clear hK K
                  refine Leg.QW.want (by kernel_rfl) (fun K hK => ?_)
                  go_big_quiet_op
                  refine ⟨_, fun _ => cA _ _, hK _ ?_⟩
                  clear hK K
                  refine Leg.QW.want (by kernel_rfl) (fun K hK => ?_)
                  go_big_quiet_op
                  refine hK _ ?_
                  clear hK K
                  refine Leg.QW.want (by kernel_rfl) (fun K hK => ?_)
                  go_big_quiet_op
                  refine hK _ ?_
                  clear hK K
                  refine Leg.QW.want (by kernel_rfl) (fun K hK => ?_)
                  go_big_quiet_op
                  refine hK _ ?_
                  clear hK K
                  refine Leg.QW.want (by kernel_rfl) (fun K hK => ?_)
                  go_big_quiet_op
                  refine hK _ ?_
                  clear hK K
                  refine Leg.QW.want (by kernel_rfl) (fun K hK => ?_)
                  go_big_quiet_op
                  refine hK _ ?_
                  clear hK K
                  refine Leg.QW.skip (by kernel_rfl) ?_
                  refine Leg.QW.skip (by kernel_rfl) ?_
                  refine Leg.QW.skip (by kernel_rfl) ?_
                  refine Leg.QW.skip (by kernel_rfl) ?_
                  refine Leg.QW.skip (by kernel_rfl) ?_
                  refine Leg.QW.skip (by kernel_rfl) ?_
                  refine Leg.QW.skip (by kernel_rfl) ?_
                  refine Leg.QW.skip (by kernel_rfl) ?_
                  refine Leg.QW.skip (by kernel_rfl) ?_
                  refine Leg.QW.skip (by kernel_rfl) ?_
                  refine Leg.QW.skip (by kernel_rfl) ?_
                  refine Leg.QW.skip (by kernel_rfl) ?_
                  refine Leg.QW.skip (by kernel_rfl) ?_
                  refine Leg.QW.skip (by kernel_rfl) ?_
                  refine Leg.QW.want (by kernel_rfl) (fun K hK => ?_)
                  go_simp
                  refine hK _ ?_
                  clear hK K
                  refine Leg.QW.want (by kernel_rfl) (fun K hK => ?_)
                  go_big_quiet_op
                  refine hK _ ?_
                  clear hK K
                  refine Leg.QW.nil ?_
                  intro _ hw'
                  obtain ⟨⟨dq, osq⟩, hw''⟩ := hw'
                  subst hw''
                  have hbq := hbel.trans ((below_regrown wr dq osq).mono hbs)
                  clear hbel hB hsz hbs cA g0 g1 g2 y0
                  generalize grow (redrawn wr dq) osq = w9 at hbq ⊢
                  go_wp2
                  go_loopw [5] (fun j w2 => ∃ m : Nat, m ≤ k ∧ j = .int .i64 m ∧ Hid (NoneAt ps k m) ∧ Below (w.heap.size + 1) (w.alloc (.cells #[.slice ao0 ks.length cap0, .slice (some ⟨b, off, none⟩) ps.length cap1] 40)) w2) (fun j _ => k - (intOf j).toNat)
                  case atStart => exact ⟨0, Nat.zero_le _, rfl, fun t _ _ ht => by omega, hbq⟩
                  case round =>
                    clear hbq
                    obtain ⟨m, hm, rfl, hno, hb2⟩ := hrel
                    have hB2 := box_under hb2
                    have z1 := box_at hb2 1
                    simp at z1
                    have hsz2 : w.heap.size < wr.heap.size := by have := hb2.size; simp at this; omega
                    by_cases hmk : m < k
                    · exact absurd hmk (by omega)
                    · have HA : Hid (RowTo PtOk (fun x : DPlanPoint => x.1) ps (k + 1) ∧ ApartTo ps (k + 1)) := ⟨HN1.out, HAP.out.next ((show m = k by omega) ▸ hno.out)⟩
                      clear hno z1
                      go_wp2
                      go_roundw
                      case rel => exact ⟨k + 1, by omega, by go_num, HA, hb2⟩
                      case measure => simp [intOf]; omega
              · have hok1 := pb_no hok0
                have HF : Hid (pb (BaseOk (ks, ps)) = false) := HNO.out hok0
                clear HNO HYES HASC hok0
                have cA : ∀ dd os, Calls Tryz.prog 92 #[.agg #[.string n, .int .i64 q, .int .i64 s]] (grow (redrawn wr dd) os) (fun e w'' => e = .returned (.bool false) ∧ ∃ p : Regrown, w'' = grow (redrawn wr p.d) p.os) := fun dd os => Calls.regrown_of (by rw [← hok1]; exact sPt (n, q, s) _ q0)
                have g0 := cell_regrown f0
                have g1 := cell_regrown f1
                have g2 := cell_regrown f2
                have y0 := cell_regrown x1
                clear f0 f1 f2
                clear hok1
                go_wp2_with fail
                clear x1
                refine Leg.wp_region_qw (by kernel_rfl) (by kernel_rfl) ?_
                refine Leg.QW.want (by kernel_rfl) (fun K hK => ?_)
                go_big_quiet_op
                refine hK _ ?_
                clear hK K
                refine Leg.QW.want (by kernel_rfl) (fun K hK => ?_)
                go_big_quiet_op
                refine hK _ ?_
                clear hK K
                refine Leg.QW.want (by kernel_rfl) (fun K hK => ?_)
                go_big_quiet_op
                refine hK _ ?_
                clear hK K
                refine Leg.QW.want (by kernel_rfl) (fun K hK => ?_)
                go_big_quiet_op
                refine hK _ ?_
                clear hK K
                refine Leg.QW.want (by kernel_rfl) (fun K hK => ?_)
                go_big_quiet_op
                refine hK _ ?_
                clear hK K
                refine Leg.QW.want (by kernel_rfl) (fun K hK => ?_)
                go_big_quiet_op
                refine ⟨_, fun _ => cA _ _, hK _ ?_⟩
                clear hK K
                refine Leg.QW.want (by kernel_rfl) (fun K hK => ?_)
                go_big_quiet_op
                refine hK _ ?_
                clear hK K
                refine Leg.QW.want (by kernel_rfl) (fun K hK => ?_)
                go_big_quiet_op
                refine hK _ ?_
                clear hK K
                refine Leg.QW.skip (by kernel_rfl) ?_
                refine Leg.QW.skip (by kernel_rfl) ?_
                refine Leg.QW.skip (by kernel_rfl) ?_
                refine Leg.QW.skip (by kernel_rfl) ?_
                refine Leg.QW.skip (by kernel_rfl) ?_
                refine Leg.QW.skip (by kernel_rfl) ?_
                refine Leg.QW.skip (by kernel_rfl) ?_
                refine Leg.QW.skip (by kernel_rfl) ?_
                refine Leg.QW.skip (by kernel_rfl) ?_
                refine Leg.QW.skip (by kernel_rfl) ?_
                refine Leg.QW.skip (by kernel_rfl) ?_
                refine Leg.QW.skip (by kernel_rfl) ?_
                refine Leg.QW.skip (by kernel_rfl) ?_
                refine Leg.QW.skip (by kernel_rfl) ?_
                refine Leg.QW.skip (by kernel_rfl) ?_
                refine Leg.QW.skip (by kernel_rfl) ?_
                refine Leg.QW.skip (by kernel_rfl) ?_
                refine Leg.QW.skip (by kernel_rfl) ?_
                refine Leg.QW.want (by kernel_rfl) (fun K hK => ?_)
                go_simp
                refine hK _ ?_
                clear hK K
                refine Leg.QW.nil ?_
                intro _ hw'
                obtain ⟨⟨dq, osq⟩, hw''⟩ := hw'
                subst hw''
                have hbq := hbel.trans ((below_regrown wr dq osq).mono hbs)
                clear hbel hB hsz hbs cA g0 g1 g2 y0
                generalize grow (redrawn wr dq) osq = w9 at hbq ⊢
                have hBq := box_under hbq
                go_wp2
                go_ret
                exact ⟨by rw [HF.out]; rfl, hBq⟩
            · have HR : Hid (pb (BaseOk (ks, ps)) = true) := pb_yes ⟨⟨n0, n1⟩, HK.out, (show k = ps.length by omega) ▸ hpre.out⟩
              clear hpre
              go_wp2
              go_ret
              exact ⟨by rw [HR.out]; rfl, hB⟩
    · have HR : Hid (pb (BaseOk (ks, ps)) = false) := pb_no (fun h => n1 h.1.2)
      have n0I : ¬ (6 : Int) < (ks.length : Int) := by omega
      have n1I : (16 : Int) < (ps.length : Int) := by omega
      go_enter Tryz.func56, Tryz.ntmps56
      go_wp2
      go_ret
      exact ⟨by rw [HR.out]; rfl, hb0⟩
  · have HR : Hid (pb (BaseOk (ks, ps)) = false) := pb_no (fun h => n0 h.1.1)
    have n0I : (6 : Int) < (ks.length : Int) := by omega
    go_enter Tryz.func56, Tryz.ntmps56
    go_wp2
    go_ret
    exact ⟨by rw [HR.out]; rfl, hb0⟩

end Go.Proofs.YtgnjkpmbppmoeaaGreat
