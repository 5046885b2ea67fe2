/- DERIVED. impl.planListOk at impl.PlanKind: its walk (written by wip/tools/mk_pl1.py). -/
import Derived.Test.YtgnjkpmbppmoeaaGreatKGPl
import Derived.Test.YtgnjkpmbppmoeaaGreatKWq0
namespace Go.Proofs.YtgnjkpmbppmoeaaGreat
open Go.RowKit Go.Sort
set_option linter.unusedSimpArgs false
set_option linter.unusedVariables false

theorem methPlanKindA (a b c : Value) (w : World) : (method (336 + 1) 31 (.agg #[a, b, c]) "loop.example/lapwing/impl.aloneOk").run Tryz.prog w = .ok (145, .agg #[a, b, c]) w := by kernel_rfl
theorem methPlanKindN (a b c : Value) (w : World) : (method (336 + 1) 31 (.agg #[a, b, c]) "loop.example/lapwing/impl.name").run Tryz.prog w = .ok (146, .agg #[a, b, c]) w := by kernel_rfl

set_option maxRecDepth 100000 in
set_option maxHeartbeats 4000000 in
theorem list_PlanKind (ao : Option Addr) (cap : Nat) (l : List DPlanKind) (m : Nat) (w : World) (h : SliceAt vPlanKind (old w) w ao cap l) (hm : m ≤ 1000) :
    Calls Tryz.prog 98 #[.slice ao l.length cap, .int .i64 m] w fun e w' => e = .returned (.bool (pb (l.length ≤ m ∧ RowTo KindOk (fun x : DPlanKind => x.1) l l.length))) ∧ Below w.heap.size w w' := by
  have hcl := h.1
  have hcm : cap ≤ 9223372036854775807 := h.2.1
  by_cases hn : l.length ≤ m
  · have hnI : ¬ (m : Int) < (l.length : Int) := by omega
    go_enter Tryz.func98, Tryz.ntmps98
    go_wp2
    go_loopw [13] (fun i wr => ∃ k : Nat, k ≤ l.length ∧ i = .int .i64 k ∧ Hid (RowTo KindOk (fun x : DPlanKind => x.1) l k) ∧ Below w.heap.size w wr) (fun i _ => l.length - (intOf i).toNat)
    case atStart => exact ⟨0, Nat.zero_le _, rfl, RowTo.zero, Below.refl _ _⟩
    case round =>
      obtain ⟨k, hk, rfl, hpre, hB⟩ := hrel
      by_cases hlt : k < l.length
      · have hk1 : k - 1 < l.length := by omega
        obtain ⟨b, off, rfl, hok, c0, c1, c2, q0, _⟩ := elem_PlanKind h hlt
        have f0 := (hB.cell (p := ⟨b, off + k * 3, none⟩) hok).trans c0
        have f1 := (hB.cell (p := ⟨b, off + k * 3 + 1, none⟩) hok).trans c1
        have f2 := (hB.cell (p := ⟨b, off + k * 3 + 2, none⟩) hok).trans c2
        clear c0 c1 c2
        have hbw : b < wr.heap.size := Nat.lt_of_lt_of_le hok hB.size
        have hkI : (k : Int) < (l.length : Int) := by omega
        obtain ⟨n, q, s, hcur⟩ : ∃ n q s, l[k]'hlt = (n, q, s) := ⟨_, _, _, rfl⟩
        have HNO : Hid (¬ KindOk (n, q, s) → pb (l.length ≤ m ∧ RowTo KindOk (fun x : DPlanKind => x.1) l l.length) = false) := fun h1 => pb_no (fun h2 => h1 (hcur ▸ (h2.2 k hlt hlt).1))
        have HYES : Hid (KindOk (n, q, s) → (∀ h0 : 0 < k, SLess (l[k - 1]'hk1).1 n) → RowTo KindOk (fun x : DPlanKind => x.1) l (k + 1)) := fun h1 h2 => hpre.out.next hlt (hcur ▸ h1) (fun h0 => by have := h2 h0; rw [hcur]; exact this)
        have HASC : Hid (∀ h0 : 0 < k, ¬ SLess (l[k - 1]'hk1).1 n → pb (l.length ≤ m ∧ RowTo KindOk (fun x : DPlanKind => x.1) l l.length) = false) := fun h0 h1 => pb_no (fun h2 => h1 (by have := (h2.2 k hlt hlt).2 h0; rw [hcur] at this; exact this))
        rw [hcur] at f0 f1 f2 q0
        simp only at f0 f1 f2 q0
        clear hcur hpre
        have hbW1 : Below wr.heap.size wr (wr.alloc (.cells #[.string n, .int .i64 q, .int .i64 s] 31)) := (Below.refl _ _).alloc (Nat.le_refl _) _
        have HFIN : Hid (∀ w3 : World, Below (wr.alloc (.cells #[.string n, .int .i64 q, .int .i64 s] 31)).heap.size (wr.alloc (.cells #[.string n, .int .i64 q, .int .i64 s] 31)) w3 → Below w.heap.size w w3) := fun w3 hb3 => hB.trans ((hbW1.trans (hb3.mono (by simp))).mono hB.size)
        by_cases hok0 : KindOk (n, q, s)
        · have hok1 := pb_yes hok0
          by_cases hk0 : 0 < k
          · obtain ⟨b', off', hbo, _, d0, d1, d2, _⟩ := elem_PlanKind h hk1
            cases hbo
            have p0 := (hB.cell (p := ⟨b, off + (k - 1) * 3, none⟩) hok).trans d0
            have p1 := (hB.cell (p := ⟨b, off + (k - 1) * 3 + 1, none⟩) hok).trans d1
            have p2 := (hB.cell (p := ⟨b, off + (k - 1) * 3 + 2, none⟩) hok).trans d2
            clear d0 d1 d2
            have hd0 : decide ((0 : Int) < (k : Int)) = true := by simp; omega
            have hkI1 : (k : Int) - 1 < (l.length : Int) := by omega
            have hkN : ((k : Int) - 1).toNat = k - 1 := by omega
            have hk1I : (1 : Int) ≤ (k : Int) := by omega
            have hkW : IntKind.i64.wrap ((k : Int) - 1) = (k : Int) - 1 := by rw [IntKind.wrap_i64]; all_goals omega
            by_cases hasc : SLess (l[k - 1]'hk1).1 n
            · have HN1 : Hid (RowTo KindOk (fun x : DPlanKind => x.1) l (k + 1)) := HYES.out hok0 (fun _ => hasc)
              clear HNO HYES HASC hok0 h
              obtain ⟨n', q', s', hprv⟩ : ∃ n q s, l[k - 1]'hk1 = (n, q, s) := ⟨_, _, _, rfl⟩
              rw [hprv] at p0 p1 p2 hasc
              simp only at p0 p1 p2 hasc
              clear hprv
              have hlb : Op.bytesLess n'.toList n.toList = true := hasc
              clear hasc
              go_wp2
              have v0 : (wr.alloc (.cells #[.string n, .int .i64 q, .int .i64 s] 31)).cell? ⟨wr.heap.size, 0, none⟩ = some (.string n) := box_in (Below.refl _ _) 0
              have v1 : (wr.alloc (.cells #[.string n, .int .i64 q, .int .i64 s] 31)).cell? ⟨wr.heap.size, 1, none⟩ = some (.int .i64 q) := box_in (Below.refl _ _) 1
              have v2 : (wr.alloc (.cells #[.string n, .int .i64 q, .int .i64 s] 31)).cell? ⟨wr.heap.size, 2, none⟩ = some (.int .i64 s) := box_in (Below.refl _ _) 2
              have r0 := (hbW1.cell (p := ⟨b, off + (k - 1) * 3, none⟩) hbw).trans p0
              have r1 := (hbW1.cell (p := ⟨b, off + (k - 1) * 3 + 1, none⟩) hbw).trans p1
              have r2 := (hbW1.cell (p := ⟨b, off + (k - 1) * 3 + 2, none⟩) hbw).trans p2
              clear p0 p1 p2
              clear hbW1
              generalize (wr.alloc (.cells #[.string n, .int .i64 q, .int .i64 s] 31)) = wr1 at *
              have cA : ∀ dd os, Calls Tryz.prog 145 #[.agg #[.string n, .int .i64 q, .int .i64 s]] (grow (redrawn wr1 dd) os) (fun e w'' => e = .returned (.bool true) ∧ ∃ p : Regrown, w'' = grow (redrawn wr1 p.d) p.os) := fun dd os => Calls.regrown_of (by rw [← hok1]; exact iKind (n, q, s) _ q0)
              have cN : ∀ dd os, Calls Tryz.prog 146 #[.agg #[.string n, .int .i64 q, .int .i64 s]] (grow (redrawn wr1 dd) os) (fun e w'' => e = .returned (.string n) ∧ ∃ p : Regrown, w'' = grow (redrawn wr1 p.d) p.os) := fun dd os => Calls.regrown_of (iNmKind _ _ _ _)
              have cP : ∀ dd os, Calls Tryz.prog 146 #[.agg #[.string n', .int .i64 q', .int .i64 s']] (grow (redrawn wr1 dd) os) (fun e w'' => e = .returned (.string n') ∧ ∃ p : Regrown, w'' = grow (redrawn wr1 p.d) p.os) := fun dd os => Calls.regrown_of (iNmKind _ _ _ _)
              have g0 := cell_regrown v0
              have g1 := cell_regrown v1
              have g2 := cell_regrown v2
              clear v0 v1 v2
              have t0 := cell_regrown r0
              have t1 := cell_regrown r1
              have t2 := cell_regrown r2
              clear r0 r1 r2
              have mA := methPlanKindA
              have mN := methPlanKindN
              clear hok1
              refine Leg.wp_region_qw (by kernel_rfl) (by kernel_rfl) ?_
              refine Leg.QW.want (by kernel_rfl) (fun K hK => ?_)
              go_big_quiet_op
              refine hK _ ?_
              clear hK K
              refine Leg.QW.want (by kernel_rfl) (fun K hK => ?_)
              go_big_quiet_op
              refine hK _ ?_
              clear hK K
              refine Leg.QW.want (by kernel_rfl) (fun K hK => ?_)
              go_big_quiet_op
              refine ⟨_, fun _ => cA _ _, hK _ ?_⟩
              clear hK K
              refine Leg.QW.want (by kernel_rfl) (fun K hK => ?_)
              go_big_quiet_op
              refine hK _ ?_
              clear hK K
              refine Leg.QW.want (by kernel_rfl) (fun K hK => ?_)
              go_big_quiet_op
              refine hK _ ?_
              clear hK K
              refine Leg.QW.want (by kernel_rfl) (fun K hK => ?_)
              go_big_quiet_op
              refine hK _ ?_
              clear hK K
              refine Leg.QW.want (by kernel_rfl) (fun K hK => ?_)
              go_big_quiet_op
              refine hK _ ?_
              clear hK K
              refine Leg.QW.want (by kernel_rfl) (fun K hK => ?_)
              go_big_quiet_op
              refine hK _ ?_
              clear hK K
              refine Leg.QW.want (by kernel_rfl) (fun K hK => ?_)
              go_big_quiet_op
              refine hK _ ?_
              clear hK K
              refine Leg.QW.want (by kernel_rfl) (fun K hK => ?_)
              go_big_quiet_op
              refine hK _ ?_
              clear hK K
              refine Leg.QW.want (by kernel_rfl) (fun K hK => ?_)
              go_big_quiet_op
              refine hK _ ?_
              clear hK K
              refine Leg.QW.want (by kernel_rfl) (fun K hK => ?_)
              go_big_quiet_op
              refine hK _ ?_
              clear hK K
              refine Leg.QW.want (by kernel_rfl) (fun K hK => ?_)
              go_big_quiet_op
              refine hK _ ?_
              clear hK K
              refine Leg.QW.want (by kernel_rfl) (fun K hK => ?_)
              go_big_quiet_op
              refine hK _ ?_
              clear hK K
              refine Leg.QW.want (by kernel_rfl) (fun K hK => ?_)
              go_big_quiet_op
              refine ⟨_, fun _ => cP _ _, hK _ ?_⟩
              clear hK K
              refine Leg.QW.want (by kernel_rfl) (fun K hK => ?_)
              go_big_quiet_op
              refine hK _ ?_
              clear hK K
              refine Leg.QW.want (by kernel_rfl) (fun K hK => ?_)
              go_big_quiet_op
              refine hK _ ?_
              clear hK K
              refine Leg.QW.want (by kernel_rfl) (fun K hK => ?_)
              go_big_quiet_op
              refine ⟨_, fun _ => cN _ _, hK _ ?_⟩
              clear hK K
              refine Leg.QW.want (by kernel_rfl) (fun K hK => ?_)
              go_big_quiet_op
              refine hK _ ?_
              clear hK K
              refine Leg.QW.want (by kernel_rfl) (fun K hK => ?_)
              go_big_quiet_op
              refine hK _ ?_
              clear hK K
              refine Leg.QW.want (by kernel_rfl) (fun K hK => ?_)
              go_big_quiet_op
              refine hK _ ?_
              clear hK K
              refine Leg.QW.nil ?_
              intro _ hw'
              obtain ⟨⟨dq, osq⟩, hw''⟩ := hw'
              subst hw''
              have hbq := HFIN.out _ (below_regrown wr1 dq osq)
              clear HFIN
              generalize grow (redrawn wr1 dq) osq = w9 at hbq ⊢
              go_wp2
              go_roundw
              case rel => exact ⟨k + 1, by omega, by go_num, HN1, hbq⟩
              case measure => simp [intOf]; omega
            · have HF : Hid (pb (l.length ≤ m ∧ RowTo KindOk (fun x : DPlanKind => x.1) l l.length) = false) := HASC.out hk0 hasc
              clear HNO HYES HASC hok0 h
              obtain ⟨n', q', s', hprv⟩ : ∃ n q s, l[k - 1]'hk1 = (n, q, s) := ⟨_, _, _, rfl⟩
              rw [hprv] at p0 p1 p2 hasc
              simp only at p0 p1 p2 hasc
              clear hprv
              have hlb : Op.bytesLess n'.toList n.toList = false := by unfold SLess at hasc; simpa using hasc
              clear hasc
              go_wp2
              have v0 : (wr.alloc (.cells #[.string n, .int .i64 q, .int .i64 s] 31)).cell? ⟨wr.heap.size, 0, none⟩ = some (.string n) := box_in (Below.refl _ _) 0
              have v1 : (wr.alloc (.cells #[.string n, .int .i64 q, .int .i64 s] 31)).cell? ⟨wr.heap.size, 1, none⟩ = some (.int .i64 q) := box_in (Below.refl _ _) 1
              have v2 : (wr.alloc (.cells #[.string n, .int .i64 q, .int .i64 s] 31)).cell? ⟨wr.heap.size, 2, none⟩ = some (.int .i64 s) := box_in (Below.refl _ _) 2
              have r0 := (hbW1.cell (p := ⟨b, off + (k - 1) * 3, none⟩) hbw).trans p0
              have r1 := (hbW1.cell (p := ⟨b, off + (k - 1) * 3 + 1, none⟩) hbw).trans p1
              have r2 := (hbW1.cell (p := ⟨b, off + (k - 1) * 3 + 2, none⟩) hbw).trans p2
              clear p0 p1 p2
              clear hbW1
              generalize (wr.alloc (.cells #[.string n, .int .i64 q, .int .i64 s] 31)) = wr1 at *
              have cA : ∀ dd os, Calls Tryz.prog 145 #[.agg #[.string n, .int .i64 q, .int .i64 s]] (grow (redrawn wr1 dd) os) (fun e w'' => e = .returned (.bool true) ∧ ∃ p : Regrown, w'' = grow (redrawn wr1 p.d) p.os) := fun dd os => Calls.regrown_of (by rw [← hok1]; exact iKind (n, q, s) _ q0)
              have cN : ∀ dd os, Calls Tryz.prog 146 #[.agg #[.string n, .int .i64 q, .int .i64 s]] (grow (redrawn wr1 dd) os) (fun e w'' => e = .returned (.string n) ∧ ∃ p : Regrown, w'' = grow (redrawn wr1 p.d) p.os) := fun dd os => Calls.regrown_of (iNmKind _ _ _ _)
              have cP : ∀ dd os, Calls Tryz.prog 146 #[.agg #[.string n', .int .i64 q', .int .i64 s']] (grow (redrawn wr1 dd) os) (fun e w'' => e = .returned (.string n') ∧ ∃ p : Regrown, w'' = grow (redrawn wr1 p.d) p.os) := fun dd os => Calls.regrown_of (iNmKind _ _ _ _)
              have g0 := cell_regrown v0
              have g1 := cell_regrown v1
              have g2 := cell_regrown v2
              clear v0 v1 v2
              have t0 := cell_regrown r0
              have t1 := cell_regrown r1
              have t2 := cell_regrown r2
              clear r0 r1 r2
              have mA := methPlanKindA
              have mN := methPlanKindN
              clear hok1
              refine Leg.wp_region_qw (by kernel_rfl) (by kernel_rfl) ?_
              refine Leg.QW.want (by kernel_rfl) (fun K hK => ?_)
              go_big_quiet_op
              refine hK _ ?_
              clear hK K
              refine Leg.QW.want (by kernel_rfl) (fun K hK => ?_)
              go_big_quiet_op
              refine hK _ ?_
              clear hK K
              refine Leg.QW.want (by kernel_rfl) (fun K hK => ?_)
              go_big_quiet_op
              refine ⟨_, fun _ => cA _ _, hK _ ?_⟩
              clear hK K
              refine Leg.QW.want (by kernel_rfl) (fun K hK => ?_)
              go_big_quiet_op
              refine hK _ ?_
              clear hK K
              refine Leg.QW.want (by kernel_rfl) (fun K hK => ?_)
              go_big_quiet_op
              refine hK _ ?_
              clear hK K
              refine Leg.QW.want (by kernel_rfl) (fun K hK => ?_)
              go_big_quiet_op
              refine hK _ ?_
              clear hK K
              refine Leg.QW.want (by kernel_rfl) (fun K hK => ?_)
              go_big_quiet_op
              refine hK _ ?_
              clear hK K
              refine Leg.QW.want (by kernel_rfl) (fun K hK => ?_)
              go_big_quiet_op
              refine hK _ ?_
              clear hK K
              refine Leg.QW.want (by kernel_rfl) (fun K hK => ?_)
              go_big_quiet_op
              refine hK _ ?_
              clear hK K
              refine Leg.QW.want (by kernel_rfl) (fun K hK => ?_)
              go_big_quiet_op
              refine hK _ ?_
              clear hK K
              refine Leg.QW.want (by kernel_rfl) (fun K hK => ?_)
              go_big_quiet_op
              refine hK _ ?_
              clear hK K
              refine Leg.QW.want (by kernel_rfl) (fun K hK => ?_)
              go_big_quiet_op
              refine hK _ ?_
              clear hK K
              refine Leg.QW.want (by kernel_rfl) (fun K hK => ?_)
              go_big_quiet_op
              refine hK _ ?_
              clear hK K
              refine Leg.QW.want (by kernel_rfl) (fun K hK => ?_)
              go_big_quiet_op
              refine hK _ ?_
              clear hK K
              refine Leg.QW.want (by kernel_rfl) (fun K hK => ?_)
              go_big_quiet_op
              refine ⟨_, fun _ => cP _ _, hK _ ?_⟩
              clear hK K
              refine Leg.QW.want (by kernel_rfl) (fun K hK => ?_)
              go_big_quiet_op
              refine hK _ ?_
              clear hK K
              refine Leg.QW.want (by kernel_rfl) (fun K hK => ?_)
              go_big_quiet_op
              refine hK _ ?_
              clear hK K
              refine Leg.QW.want (by kernel_rfl) (fun K hK => ?_)
              go_big_quiet_op
              refine ⟨_, fun _ => cN _ _, hK _ ?_⟩
              clear hK K
              refine Leg.QW.want (by kernel_rfl) (fun K hK => ?_)
              go_big_quiet_op
              refine hK _ ?_
              clear hK K
              refine Leg.QW.want (by kernel_rfl) (fun K hK => ?_)
              go_big_quiet_op
              refine hK _ ?_
              clear hK K
              refine Leg.QW.want (by kernel_rfl) (fun K hK => ?_)
              go_big_quiet_op
              refine hK _ ?_
              clear hK K
              refine Leg.QW.nil ?_
              intro _ hw'
              obtain ⟨⟨dq, osq⟩, hw''⟩ := hw'
              subst hw''
              have hbq := HFIN.out _ (below_regrown wr1 dq osq)
              clear HFIN
              generalize grow (redrawn wr1 dq) osq = w9 at hbq ⊢
              go_wp2
              go_ret
              exact ⟨by rw [HF.out]; rfl, hbq⟩
          · have hd0 : decide ((0 : Int) < (k : Int)) = false := by simp; omega
            have HN1 : Hid (RowTo KindOk (fun x : DPlanKind => x.1) l (k + 1)) := HYES.out hok0 (fun h0 => absurd h0 hk0)
            clear HNO HYES HASC hok0 h
            go_wp2
            have v0 : (wr.alloc (.cells #[.string n, .int .i64 q, .int .i64 s] 31)).cell? ⟨wr.heap.size, 0, none⟩ = some (.string n) := box_in (Below.refl _ _) 0
            have v1 : (wr.alloc (.cells #[.string n, .int .i64 q, .int .i64 s] 31)).cell? ⟨wr.heap.size, 1, none⟩ = some (.int .i64 q) := box_in (Below.refl _ _) 1
            have v2 : (wr.alloc (.cells #[.string n, .int .i64 q, .int .i64 s] 31)).cell? ⟨wr.heap.size, 2, none⟩ = some (.int .i64 s) := box_in (Below.refl _ _) 2
            clear hbW1
            generalize (wr.alloc (.cells #[.string n, .int .i64 q, .int .i64 s] 31)) = wr1 at *
            have cA : ∀ dd os, Calls Tryz.prog 145 #[.agg #[.string n, .int .i64 q, .int .i64 s]] (grow (redrawn wr1 dd) os) (fun e w'' => e = .returned (.bool true) ∧ ∃ p : Regrown, w'' = grow (redrawn wr1 p.d) p.os) := fun dd os => Calls.regrown_of (by rw [← hok1]; exact iKind (n, q, s) _ q0)
            have g0 := cell_regrown v0
            have g1 := cell_regrown v1
            have g2 := cell_regrown v2
            clear v0 v1 v2
            have mA := methPlanKindA
            have mN := methPlanKindN
            clear hok1
            refine Leg.wp_region_qw (by kernel_rfl) (by kernel_rfl) ?_
            refine Leg.QW.want (by kernel_rfl) (fun K hK => ?_)
            go_big_quiet_op
            refine hK _ ?_
            clear hK K
            refine Leg.QW.want (by kernel_rfl) (fun K hK => ?_)
            go_big_quiet_op
            refine hK _ ?_
            clear hK K
            refine Leg.QW.want (by kernel_rfl) (fun K hK => ?_)
            go_big_quiet_op
            refine ⟨_, fun _ => cA _ _, hK _ ?_⟩
            clear hK K
            refine Leg.QW.want (by kernel_rfl) (fun K hK => ?_)
            go_big_quiet_op
            refine hK _ ?_
            clear hK K
            refine Leg.QW.want (by kernel_rfl) (fun K hK => ?_)
            go_big_quiet_op
            refine hK _ ?_
            clear hK K
            refine Leg.QW.want (by kernel_rfl) (fun K hK => ?_)
            go_big_quiet_op
            refine hK _ ?_
            clear hK K
            refine Leg.QW.want (by kernel_rfl) (fun K hK => ?_)
            go_big_quiet_op
            refine hK _ ?_
            clear hK K
            refine Leg.QW.want (by kernel_rfl) (fun K hK => ?_)
            go_big_quiet_op
            refine hK _ ?_
            clear hK K
            refine Leg.QW.skip (by kernel_rfl) ?_
            refine Leg.QW.skip (by kernel_rfl) ?_
            refine Leg.QW.skip (by kernel_rfl) ?_
            refine Leg.QW.skip (by kernel_rfl) ?_
            refine Leg.QW.skip (by kernel_rfl) ?_
            refine Leg.QW.skip (by kernel_rfl) ?_
            refine Leg.QW.skip (by kernel_rfl) ?_
            refine Leg.QW.skip (by kernel_rfl) ?_
            refine Leg.QW.skip (by kernel_rfl) ?_
            refine Leg.QW.skip (by kernel_rfl) ?_
            refine Leg.QW.skip (by kernel_rfl) ?_
            refine Leg.QW.want (by kernel_rfl) (fun K hK => ?_)
            go_simp
            refine hK _ ?_
            clear hK K
            refine Leg.QW.want (by kernel_rfl) (fun K hK => ?_)
            go_big_quiet_op
            refine hK _ ?_
            clear hK K
            refine Leg.QW.nil ?_
            intro _ hw'
            obtain ⟨⟨dq, osq⟩, hw''⟩ := hw'
            subst hw''
            have hbq := HFIN.out _ (below_regrown wr1 dq osq)
            clear HFIN
            generalize grow (redrawn wr1 dq) osq = w9 at hbq ⊢
            go_wp2
            go_roundw
            case rel => exact ⟨k + 1, by omega, by go_num, HN1, hbq⟩
            case measure => simp [intOf]; omega
        · have hok1 := pb_no hok0
          have HF : Hid (pb (l.length ≤ m ∧ RowTo KindOk (fun x : DPlanKind => x.1) l l.length) = false) := HNO.out hok0
          clear HNO HYES HASC hok0 h
          go_wp2
          have v0 : (wr.alloc (.cells #[.string n, .int .i64 q, .int .i64 s] 31)).cell? ⟨wr.heap.size, 0, none⟩ = some (.string n) := box_in (Below.refl _ _) 0
          have v1 : (wr.alloc (.cells #[.string n, .int .i64 q, .int .i64 s] 31)).cell? ⟨wr.heap.size, 1, none⟩ = some (.int .i64 q) := box_in (Below.refl _ _) 1
          have v2 : (wr.alloc (.cells #[.string n, .int .i64 q, .int .i64 s] 31)).cell? ⟨wr.heap.size, 2, none⟩ = some (.int .i64 s) := box_in (Below.refl _ _) 2
          clear hbW1
          generalize (wr.alloc (.cells #[.string n, .int .i64 q, .int .i64 s] 31)) = wr1 at *
          have cA : ∀ dd os, Calls Tryz.prog 145 #[.agg #[.string n, .int .i64 q, .int .i64 s]] (grow (redrawn wr1 dd) os) (fun e w'' => e = .returned (.bool false) ∧ ∃ p : Regrown, w'' = grow (redrawn wr1 p.d) p.os) := fun dd os => Calls.regrown_of (by rw [← hok1]; exact iKind (n, q, s) _ q0)
          have g0 := cell_regrown v0
          have g1 := cell_regrown v1
          have g2 := cell_regrown v2
          clear v0 v1 v2
          have mA := methPlanKindA
          have mN := methPlanKindN
          clear hok1
          refine Leg.wp_region_qw (by kernel_rfl) (by kernel_rfl) ?_
          refine Leg.QW.want (by kernel_rfl) (fun K hK => ?_)
          go_big_quiet_op
          refine hK _ ?_
          clear hK K
          refine Leg.QW.want (by kernel_rfl) (fun K hK => ?_)
          go_big_quiet_op
          refine hK _ ?_
          clear hK K
          refine Leg.QW.want (by kernel_rfl) (fun K hK => ?_)
          go_big_quiet_op
          refine ⟨_, fun _ => cA _ _, hK _ ?_⟩
          clear hK K
          refine Leg.QW.want (by kernel_rfl) (fun K hK => ?_)
          go_big_quiet_op
          refine hK _ ?_
          clear hK K
          refine Leg.QW.want (by kernel_rfl) (fun K hK => ?_)
          go_big_quiet_op
          refine hK _ ?_
          clear hK K
          refine Leg.QW.skip (by kernel_rfl) ?_
          refine Leg.QW.skip (by kernel_rfl) ?_
          refine Leg.QW.skip (by kernel_rfl) ?_
          refine Leg.QW.skip (by kernel_rfl) ?_
          refine Leg.QW.skip (by kernel_rfl) ?_
          refine Leg.QW.skip (by kernel_rfl) ?_
          refine Leg.QW.skip (by kernel_rfl) ?_
          refine Leg.QW.skip (by kernel_rfl) ?_
          refine Leg.QW.skip (by kernel_rfl) ?_
          refine Leg.QW.skip (by kernel_rfl) ?_
          refine Leg.QW.skip (by kernel_rfl) ?_
          refine Leg.QW.skip (by kernel_rfl) ?_
          refine Leg.QW.skip (by kernel_rfl) ?_
          refine Leg.QW.skip (by kernel_rfl) ?_
          refine Leg.QW.skip (by kernel_rfl) ?_
          refine Leg.QW.want (by kernel_rfl) (fun K hK => ?_)
          go_simp
          refine hK _ ?_
          clear hK K
          refine Leg.QW.nil ?_
          intro _ hw'
          obtain ⟨⟨dq, osq⟩, hw''⟩ := hw'
          subst hw''
          have hbq := HFIN.out _ (below_regrown wr1 dq osq)
          clear HFIN
          generalize grow (redrawn wr1 dq) osq = w9 at hbq ⊢
          go_wp2
          go_ret
          exact ⟨by rw [HF.out]; rfl, hbq⟩
      · have HP : Hid (pb (l.length ≤ m ∧ RowTo KindOk (fun x : DPlanKind => x.1) l l.length) = true) := pb_yes ⟨hn, (show k = l.length by omega) ▸ hpre.out⟩
        clear hpre
        go_wp2
        go_ret
        exact ⟨by rw [HP.out]; rfl, hB⟩
  · have HF : Hid (pb (l.length ≤ m ∧ RowTo KindOk (fun x : DPlanKind => x.1) l l.length) = false) := pb_no (fun h => hn h.1)
    have hnI : (m : Int) < (l.length : Int) := by omega
    go_enter Tryz.func98, Tryz.ntmps98
    go_wp2
    go_ret
    exact ⟨by rw [HF.out]; rfl, Below.refl _ _⟩

end Go.Proofs.YtgnjkpmbppmoeaaGreat
