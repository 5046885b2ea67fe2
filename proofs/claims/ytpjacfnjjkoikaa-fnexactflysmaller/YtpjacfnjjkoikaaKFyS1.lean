/- DERIVED. spec.FlyPathOk: its walk (written by wip/tools/mk_fys1.py). -/
import Derived.Test.YtpjacfnjjkoikaaKFyS0
import Derived.Test.YtpjacfnjjkoikaaKWq0
import Derived.Test.YtpjacfnjjkoikaaKBx0
namespace Go.Proofs.Ytpjacfnjjkoikaa
namespace Fly
open Go.RowKit Go.Sort
set_option linter.unusedSimpArgs false
set_option linter.unusedVariables false

/-- The first k steps are ok and stand behind one another. -/
def RowTo (l : List DFlyStep) (k : Nat) : Prop := ∀ i (h : i < l.length), i < k → StepOk l[i] ∧ ∀ h0 : 0 < i, StepBy (l[i - 1]'(by omega)) l[i]
theorem RowTo.next {l : List DFlyStep} {k : Nat} (h : RowTo l k) (hk : k < l.length) (hs : StepOk (l[k]'hk)) (hn : ∀ h0 : 0 < k, StepBy (l[k - 1]'(by omega)) (l[k]'hk)) : RowTo l (k + 1) := fun i hi hik => by
  by_cases e : i = k
  · subst e; exact ⟨hs, hn⟩
  · exact h i hi (by omega)
theorem RowTo.all {l : List DFlyStep} (h : RowTo l l.length) : AllOk l ∧ AllBy l :=
  ⟨fun i hi => (h i hi hi).1, fun i hi => (h (i + 1) hi hi).2 (by omega)⟩

set_option maxRecDepth 100000 in
set_option maxHeartbeats 8000000 in
theorem sPathOk_any (q s f u : Int) (ao : Option Addr) (cap : Nat) (l : List DFlyStep) (w : World) (h : SliceAt vFlyStep (old w) w ao cap l) :
    Calls Try.prog 37 #[.agg #[.int .i64 q, .int .i64 s, .slice ao l.length cap, .int .i64 f, .int .i64 u]] w fun e w' => e = .returned (.bool (pb (PathOk ((q, s), l, f, u)))) ∧ Below w.heap.size w w' := by
  have hcl := h.1
  have hcm : cap ≤ 9223372036854775807 := h.2.1
  have HK := fun W => sKindOk (q, s) W
  simp only [vKi] at HK
  by_cases hk1 : KindOk (q, s)
  · rw [pb_yes hk1] at HK
    by_cases hk2 : InR (l.length : Int) 1 40
    · have hl40 : l.length ≤ 40 := by have := hk2.2; omega
      have hl1 : 1 ≤ l.length := by have := hk2.1; omega
      by_cases hk3 : InR f 0 u
      · by_cases hk4 : u ≤ 10000
        · have HALL : Hid (RowTo l l.length → pb (PathOk ((q, s), l, f, u)) = true) := fun hr => pb_yes ⟨hk1, ⟨hl1, hl40⟩, hr.all.1, hr.all.2, hk3.1, hk3.2, hk4⟩
          have HNO : Hid (∀ i (hi : i < l.length), ¬ StepOk (l[i]'hi) → pb (PathOk ((q, s), l, f, u)) = false) := fun i hi h1 => pb_no fun h2 => h1 (h2.2.2.1 i hi)
          have HNN : Hid (∀ i (hi : i < l.length) (h0 : 0 < i), ¬ StepBy (l[i - 1]'(by omega)) (l[i]'hi) → pb (PathOk ((q, s), l, f, u)) = false) := fun i hi h0 h1 => pb_no fun h2 => h1 (by
            have := h2.2.2.2.1 (i - 1) (show i - 1 + 1 < l.length by omega)
            simp only [Nat.sub_add_cancel (show 1 ≤ i by omega)] at this
            exact this)
          clear hk1
          go_enter Try.func37, Try.ntmps37
          go_wp2_with (first | (go_at_call 67; refine (HK _).mono ?_; rintro e w1 ⟨rfl, hb1⟩; have hB1 := hb1; have z2 := (hb1.cell (p := ⟨w.heap.size, 2, none⟩) (by simp)).trans (show _ = some (Value.slice ao l.length cap) by go_simp); have z3 := (hb1.cell (p := ⟨w.heap.size, 3, none⟩) (by simp)).trans (show _ = some (Value.int .i64 f) by go_simp); have z4 := (hb1.cell (p := ⟨w.heap.size, 4, none⟩) (by simp)).trans (show _ = some (Value.int .i64 u) by go_simp); have hzz := hb1.size; simp at hzz; clear hb1) | (go_at_call 68; refine (sin_yes _ _ _ _ (by assumption)).mono ?_; rintro e w' ⟨rfl, rfl⟩))
          go_loopw [3] (fun i wr => ∃ k : Nat, k ≤ l.length ∧ i = .int .i64 k ∧ Hid (RowTo l k) ∧ Below (w.heap.size + 1) (w.alloc (.cells #[.int .i64 q, .int .i64 s, .slice ao l.length cap, .int .i64 f, .int .i64 u] 34)) wr) (fun i _ => l.length - (intOf i).toNat)
          case atStart => exact ⟨0, Nat.zero_le _, rfl, fun j _ hj => by omega, hB1.mono (by simp)⟩
          clear hB1 z2 z3 z4 hzz HK
          case round =>
            obtain ⟨k, hk, rfl, hpre, hB⟩ := hrel
            have hsz : w.heap.size + 1 ≤ wr.heap.size := by have := hB.size; simpa using this
            have z2 := box_at hB 2
            simp at z2
            by_cases hlt : k < l.length
            · obtain ⟨g, off, rfl, hok, c0, c1, c2, c3, c4, c5, c6, _⟩ := elem_FlyStep h hlt
              have hU := box_under hB
              have f0 := (hU.cell (p := ⟨g, off + k * 7, none⟩) hok).trans c0
              have f1 := (hU.cell (p := ⟨g, off + k * 7 + 1, none⟩) hok).trans c1
              have f2 := (hU.cell (p := ⟨g, off + k * 7 + 2, none⟩) hok).trans c2
              have f3 := (hU.cell (p := ⟨g, off + k * 7 + 3, none⟩) hok).trans c3
              have f4 := (hU.cell (p := ⟨g, off + k * 7 + 4, none⟩) hok).trans c4
              have f5 := (hU.cell (p := ⟨g, off + k * 7 + 5, none⟩) hok).trans c5
              have f6 := (hU.cell (p := ⟨g, off + k * 7 + 6, none⟩) hok).trans c6

              clear c0 c1 c2 c3 c4 c5 c6
              have hkI : (k : Int) < (l.length : Int) := by omega
              have HNO' : Hid (¬ StepOk (l[k]'hlt) → pb (PathOk ((q, s), l, f, u)) = false) := HNO.out k hlt
              by_cases hk0 : 0 < k
              · have hkp : k - 1 < l.length := by omega
                obtain ⟨g', off', hbo, _, c0, c1, c2, c3, c4, c5, c6, _⟩ := elem_FlyStep h hkp
                cases hbo
                have p0 := (hU.cell (p := ⟨g, off + (k - 1) * 7, none⟩) hok).trans c0
                have p1 := (hU.cell (p := ⟨g, off + (k - 1) * 7 + 1, none⟩) hok).trans c1
                have p2 := (hU.cell (p := ⟨g, off + (k - 1) * 7 + 2, none⟩) hok).trans c2
                have p3 := (hU.cell (p := ⟨g, off + (k - 1) * 7 + 3, none⟩) hok).trans c3
                have p4 := (hU.cell (p := ⟨g, off + (k - 1) * 7 + 4, none⟩) hok).trans c4
                have p5 := (hU.cell (p := ⟨g, off + (k - 1) * 7 + 5, none⟩) hok).trans c5
                have p6 := (hU.cell (p := ⟨g, off + (k - 1) * 7 + 6, none⟩) hok).trans c6

                clear c0 c1 c2 c3 c4 c5 c6
                have hd0 : decide ((0 : Int) < (k : Int)) = true := by simp; omega
                have hkI1 : (k : Int) - 1 < (l.length : Int) := by omega
                have hkN : ((k : Int) - 1).toNat = k - 1 := by omega
                have hk1I : (1 : Int) ≤ (k : Int) := by omega
                have hkW : IntKind.i64.wrap ((k : Int) - 1) = (k : Int) - 1 := by rw [IntKind.wrap_i64]; all_goals omega
                have HNN' : Hid (¬ StepBy (l[k - 1]'hkp) (l[k]'hlt) → pb (PathOk ((q, s), l, f, u)) = false) := HNN.out k hlt hk0
                have hs' : StepOk (l[k - 1]'hkp) := (hpre.out (k - 1) hkp (by omega)).1
                have HYES : Hid (StepOk (l[k]'hlt) → StepBy (l[k - 1]'hkp) (l[k]'hlt) → RowTo l (k + 1)) := fun h1 h2 => hpre.out.next hlt h1 (fun _ => h2)
                generalize l[k - 1]'hkp = sp at *
                generalize l[k]'hlt = sc at *
                obtain ⟨x, y, lo, hi, fr, up, hd⟩ := sc
                obtain ⟨x', y', lo', hi', fr', up', hd'⟩ := sp
                simp only at f0 f1 f2 f3 f4 f5 f6 p0 p1 p2 p3 p4 p5 p6
                clear HALL HNO HNN hU hpre h
                by_cases hs : StepOk (x, y, lo, hi, fr, up, hd)
                · by_cases hn : StepBy (x', y', lo', hi', fr', up', hd') (x, y, lo, hi, fr, up, hd)
                  · have HF : Hid (RowTo l (k + 1)) := HYES.out hs hn
                    clear HYES HNO' HNN'
                    go_wp2_with fail
                    have cA : ∀ dd os, Calls Try.prog 69 #[.agg #[.int .i64 x, .int .i64 y, .int .i64 lo, .int .i64 hi, .int .i64 fr, .int .i64 up, .bool hd]] (grow (redrawn wr dd) os) (fun e w'' => e = .returned (.bool true) ∧ ∃ p : Regrown, w'' = grow (redrawn wr p.d) p.os) := fun dd os => Calls.regrown_of (by have := sStep (x, y, lo, hi, fr, up, hd) (grow (redrawn wr dd) os); rw [pb_yes hs] at this; exact this)
                    have cN : ∀ dd os, Calls Try.prog 70 #[.agg #[.int .i64 x', .int .i64 y', .int .i64 lo', .int .i64 hi', .int .i64 fr', .int .i64 up', .bool hd'], .agg #[.int .i64 x, .int .i64 y, .int .i64 lo, .int .i64 hi, .int .i64 fr, .int .i64 up, .bool hd]] (grow (redrawn wr dd) os) (fun e w'' => e = .returned (.bool true) ∧ ∃ p : Regrown, w'' = grow (redrawn wr p.d) p.os) := fun dd os => Calls.regrown_of (by have := sNext (x', y', lo', hi', fr', up', hd') (x, y, lo, hi, fr, up, hd) (grow (redrawn wr dd) os) hs' hs; rw [pb_yes hn] at this; exact this)
                    clear hn hs hs'
                    have b2 := cell_regrown z2
                    have g0 := cell_regrown f0
                    have g1 := cell_regrown f1
                    have g2 := cell_regrown f2
                    have g3 := cell_regrown f3
                    have g4 := cell_regrown f4
                    have g5 := cell_regrown f5
                    have g6 := cell_regrown f6
                    clear z2 f0 f1 f2 f3 f4 f5 f6
                    have t0 := cell_regrown p0
                    have t1 := cell_regrown p1
                    have t2 := cell_regrown p2
                    have t3 := cell_regrown p3
                    have t4 := cell_regrown p4
                    have t5 := cell_regrown p5
                    have t6 := cell_regrown p6
                    clear p0 p1 p2 p3 p4 p5 p6
                    refine Leg.wp_region_qw (by kernel_rfl) (by kernel_rfl) ?_
                    refine Leg.QW.want (by kernel_rfl) (fun K hK => ?_)
                    go_big_quiet_op
                    refine hK _ ?_
                    clear hK K
                    refine Leg.QW.want (by kernel_rfl) (fun K hK => ?_)
                    go_big_quiet_op
                    refine hK _ ?_
                    clear hK K
                    refine Leg.QW.want (by kernel_rfl) (fun K hK => ?_)
                    go_big_quiet_op
                    refine hK _ ?_
                    clear hK K
                    refine Leg.QW.want (by kernel_rfl) (fun K hK => ?_)
                    go_big_quiet_op
                    refine hK _ ?_
                    clear hK K
                    refine Leg.QW.want (by kernel_rfl) (fun K hK => ?_)
                    go_big_quiet_op
                    refine hK _ ?_
                    clear hK K
                    refine Leg.QW.want (by kernel_rfl) (fun K hK => ?_)
                    go_big_quiet_op
                    refine ⟨_, fun _ => cA _ _, hK _ ?_⟩
                    clear hK K
                    refine Leg.QW.want (by kernel_rfl) (fun K hK => ?_)
                    go_big_quiet_op
                    refine hK _ ?_
                    clear hK K
                    refine Leg.QW.want (by kernel_rfl) (fun K hK => ?_)
                    go_big_quiet_op
                    refine hK _ ?_
                    clear hK K
                    refine Leg.QW.want (by kernel_rfl) (fun K hK => ?_)
                    go_big_quiet_op
                    refine hK _ ?_
                    clear hK K
                    refine Leg.QW.want (by kernel_rfl) (fun K hK => ?_)
                    go_big_quiet_op
                    refine hK _ ?_
                    clear hK K
                    refine Leg.QW.want (by kernel_rfl) (fun K hK => ?_)
                    go_big_quiet_op
                    refine hK _ ?_
                    clear hK K
                    refine Leg.QW.want (by kernel_rfl) (fun K hK => ?_)
                    go_big_quiet_op
                    refine hK _ ?_
                    clear hK K
                    refine Leg.QW.want (by kernel_rfl) (fun K hK => ?_)
                    go_big_quiet_op
                    refine hK _ ?_
                    clear hK K
                    refine Leg.QW.want (by kernel_rfl) (fun K hK => ?_)
                    go_big_quiet_op
                    refine hK _ ?_
                    clear hK K
                    refine Leg.QW.want (by kernel_rfl) (fun K hK => ?_)
                    go_big_quiet_op
                    refine hK _ ?_
                    clear hK K
                    refine Leg.QW.want (by kernel_rfl) (fun K hK => ?_)
                    go_big_quiet_op
                    refine hK _ ?_
                    clear hK K
                    refine Leg.QW.want (by kernel_rfl) (fun K hK => ?_)
                    go_big_quiet_op
                    refine hK _ ?_
                    clear hK K
                    refine Leg.QW.want (by kernel_rfl) (fun K hK => ?_)
                    go_big_quiet_op
                    refine hK _ ?_
                    clear hK K
                    refine Leg.QW.want (by kernel_rfl) (fun K hK => ?_)
                    go_big_quiet_op
                    refine hK _ ?_
                    clear hK K
                    refine Leg.QW.want (by kernel_rfl) (fun K hK => ?_)
                    go_big_quiet_op
                    refine hK _ ?_
                    clear hK K
                    refine Leg.QW.want (by kernel_rfl) (fun K hK => ?_)
                    go_big_quiet_op
                    refine hK _ ?_
                    clear hK K
                    refine Leg.QW.want (by kernel_rfl) (fun K hK => ?_)
                    go_big_quiet_op
                    refine hK _ ?_
                    clear hK K
                    refine Leg.QW.want (by kernel_rfl) (fun K hK => ?_)
                    go_big_quiet_op
                    refine ⟨_, fun _ => cN _ _, hK _ ?_⟩
                    clear hK K
                    refine Leg.QW.want (by kernel_rfl) (fun K hK => ?_)
                    go_big_quiet_op
                    refine hK _ ?_
                    clear hK K
                    refine Leg.QW.want (by kernel_rfl) (fun K hK => ?_)
                    go_big_quiet_op
                    refine hK _ ?_
                    clear hK K
                    refine Leg.QW.want (by kernel_rfl) (fun K hK => ?_)
                    go_big_quiet_op
                    refine hK _ ?_
                    clear hK K
                    refine Leg.QW.nil ?_
                    intro _ hw'
                    obtain ⟨⟨dq, osq⟩, hw''⟩ := hw'
                    subst hw''
                    have hbq := hB.trans ((below_regrown wr dq osq).mono hsz)
                    clear hB
                    generalize grow (redrawn wr dq) osq = w9 at hbq ⊢
                    go_wp2
                    go_roundw
                    case rel => exact ⟨k + 1, by omega, by go_num, HF, hbq⟩
                    case measure => simp [intOf]; omega
                  · have HF : Hid (pb (PathOk ((q, s), l, f, u)) = false) := HNN'.out hn
                    clear HYES HNO' HNN'
                    go_wp2_with fail
                    have cA : ∀ dd os, Calls Try.prog 69 #[.agg #[.int .i64 x, .int .i64 y, .int .i64 lo, .int .i64 hi, .int .i64 fr, .int .i64 up, .bool hd]] (grow (redrawn wr dd) os) (fun e w'' => e = .returned (.bool true) ∧ ∃ p : Regrown, w'' = grow (redrawn wr p.d) p.os) := fun dd os => Calls.regrown_of (by have := sStep (x, y, lo, hi, fr, up, hd) (grow (redrawn wr dd) os); rw [pb_yes hs] at this; exact this)
                    have cN : ∀ dd os, Calls Try.prog 70 #[.agg #[.int .i64 x', .int .i64 y', .int .i64 lo', .int .i64 hi', .int .i64 fr', .int .i64 up', .bool hd'], .agg #[.int .i64 x, .int .i64 y, .int .i64 lo, .int .i64 hi, .int .i64 fr, .int .i64 up, .bool hd]] (grow (redrawn wr dd) os) (fun e w'' => e = .returned (.bool false) ∧ ∃ p : Regrown, w'' = grow (redrawn wr p.d) p.os) := fun dd os => Calls.regrown_of (by have := sNext (x', y', lo', hi', fr', up', hd') (x, y, lo, hi, fr, up, hd) (grow (redrawn wr dd) os) hs' hs; rw [pb_no hn] at this; exact this)
                    clear hn hs hs'
                    have b2 := cell_regrown z2
                    have g0 := cell_regrown f0
                    have g1 := cell_regrown f1
                    have g2 := cell_regrown f2
                    have g3 := cell_regrown f3
                    have g4 := cell_regrown f4
                    have g5 := cell_regrown f5
                    have g6 := cell_regrown f6
                    clear z2 f0 f1 f2 f3 f4 f5 f6
                    have t0 := cell_regrown p0
                    have t1 := cell_regrown p1
                    have t2 := cell_regrown p2
                    have t3 := cell_regrown p3
                    have t4 := cell_regrown p4
                    have t5 := cell_regrown p5
                    have t6 := cell_regrown p6
                    clear p0 p1 p2 p3 p4 p5 p6
                    refine Leg.wp_region_qw (by kernel_rfl) (by kernel_rfl) ?_
                    refine Leg.QW.want (by kernel_rfl) (fun K hK => ?_)
                    go_big_quiet_op
                    refine hK _ ?_
                    clear hK K
                    refine Leg.QW.want (by kernel_rfl) (fun K hK => ?_)
                    go_big_quiet_op
                    refine hK _ ?_
                    clear hK K
                    refine Leg.QW.want (by kernel_rfl) (fun K hK => ?_)
                    go_big_quiet_op
                    refine hK _ ?_
                    clear hK K
                    refine Leg.QW.want (by kernel_rfl) (fun K hK => ?_)
                    go_big_quiet_op
                    refine hK _ ?_
                    clear hK K
                    refine Leg.QW.want (by kernel_rfl) (fun K hK => ?_)
                    go_big_quiet_op
                    refine hK _ ?_
                    clear hK K
                    refine Leg.QW.want (by kernel_rfl) (fun K hK => ?_)
                    go_big_quiet_op
                    refine ⟨_, fun _ => cA _ _, hK _ ?_⟩
                    clear hK K
                    refine Leg.QW.want (by kernel_rfl) (fun K hK => ?_)
                    go_big_quiet_op
                    refine hK _ ?_
                    clear hK K
                    refine Leg.QW.want (by kernel_rfl) (fun K hK => ?_)
                    go_big_quiet_op
                    refine hK _ ?_
                    clear hK K
                    refine Leg.QW.want (by kernel_rfl) (fun K hK => ?_)
                    go_big_quiet_op
                    refine hK _ ?_
                    clear hK K
                    refine Leg.QW.want (by kernel_rfl) (fun K hK => ?_)
                    go_big_quiet_op
                    refine hK _ ?_
                    clear hK K
                    refine Leg.QW.want (by kernel_rfl) (fun K hK => ?_)
                    go_big_quiet_op
                    refine hK _ ?_
                    clear hK K
                    refine Leg.QW.want (by kernel_rfl) (fun K hK => ?_)
                    go_big_quiet_op
                    refine hK _ ?_
                    clear hK K
                    refine Leg.QW.want (by kernel_rfl) (fun K hK => ?_)
                    go_big_quiet_op
                    refine hK _ ?_
                    clear hK K
                    refine Leg.QW.want (by kernel_rfl) (fun K hK => ?_)
                    go_big_quiet_op
                    refine hK _ ?_
                    clear hK K
                    refine Leg.QW.want (by kernel_rfl) (fun K hK => ?_)
                    go_big_quiet_op
                    refine hK _ ?_
                    clear hK K
                    refine Leg.QW.want (by kernel_rfl) (fun K hK => ?_)
                    go_big_quiet_op
                    refine hK _ ?_
                    clear hK K
                    refine Leg.QW.want (by kernel_rfl) (fun K hK => ?_)
                    go_big_quiet_op
                    refine hK _ ?_
                    clear hK K
                    refine Leg.QW.want (by kernel_rfl) (fun K hK => ?_)
                    go_big_quiet_op
                    refine hK _ ?_
                    clear hK K
                    refine Leg.QW.want (by kernel_rfl) (fun K hK => ?_)
                    go_big_quiet_op
                    refine hK _ ?_
                    clear hK K
                    refine Leg.QW.want (by kernel_rfl) (fun K hK => ?_)
                    go_big_quiet_op
                    refine hK _ ?_
                    clear hK K
                    refine Leg.QW.want (by kernel_rfl) (fun K hK => ?_)
                    go_big_quiet_op
                    refine hK _ ?_
                    clear hK K
                    refine Leg.QW.want (by kernel_rfl) (fun K hK => ?_)
                    go_big_quiet_op
                    refine hK _ ?_
                    clear hK K
                    refine Leg.QW.want (by kernel_rfl) (fun K hK => ?_)
                    go_big_quiet_op
                    refine ⟨_, fun _ => cN _ _, hK _ ?_⟩
                    clear hK K
                    refine Leg.QW.want (by kernel_rfl) (fun K hK => ?_)
                    go_big_quiet_op
                    refine hK _ ?_
                    clear hK K
                    refine Leg.QW.want (by kernel_rfl) (fun K hK => ?_)
                    go_big_quiet_op
                    refine hK _ ?_
                    clear hK K
                    refine Leg.QW.want (by kernel_rfl) (fun K hK => ?_)
                    go_big_quiet_op
                    refine hK _ ?_
                    clear hK K
                    refine Leg.QW.nil ?_
                    intro _ hw'
                    obtain ⟨⟨dq, osq⟩, hw''⟩ := hw'
                    subst hw''
                    have hbq := hB.trans ((below_regrown wr dq osq).mono hsz)
                    clear hB
                    generalize grow (redrawn wr dq) osq = w9 at hbq ⊢
                    go_wp2
                    go_ret
                    exact ⟨by rw [HF.out]; rfl, box_under hbq⟩
                · have HF : Hid (pb (PathOk ((q, s), l, f, u)) = false) := HNO'.out hs
                  clear HYES HNO' HNN' hs' hkI1 hkN hk1I hkW p0 p1 p2 p3 p4 p5 p6
                  go_wp2_with fail
                  have cA : ∀ dd os, Calls Try.prog 69 #[.agg #[.int .i64 x, .int .i64 y, .int .i64 lo, .int .i64 hi, .int .i64 fr, .int .i64 up, .bool hd]] (grow (redrawn wr dd) os) (fun e w'' => e = .returned (.bool false) ∧ ∃ p : Regrown, w'' = grow (redrawn wr p.d) p.os) := fun dd os => Calls.regrown_of (by have := sStep (x, y, lo, hi, fr, up, hd) (grow (redrawn wr dd) os); rw [pb_no hs] at this; exact this)
                  clear hs
                  have b2 := cell_regrown z2
                  have g0 := cell_regrown f0
                  have g1 := cell_regrown f1
                  have g2 := cell_regrown f2
                  have g3 := cell_regrown f3
                  have g4 := cell_regrown f4
                  have g5 := cell_regrown f5
                  have g6 := cell_regrown f6
                  clear z2 f0 f1 f2 f3 f4 f5 f6
                  refine Leg.wp_region_qw (by kernel_rfl) (by kernel_rfl) ?_
                  refine Leg.QW.want (by kernel_rfl) (fun K hK => ?_)
                  go_big_quiet_op
                  refine hK _ ?_
                  clear hK K
                  refine Leg.QW.want (by kernel_rfl) (fun K hK => ?_)
                  go_big_quiet_op
                  refine hK _ ?_
                  clear hK K
                  refine Leg.QW.want (by kernel_rfl) (fun K hK => ?_)
                  go_big_quiet_op
                  refine hK _ ?_
                  clear hK K
                  refine Leg.QW.want (by kernel_rfl) (fun K hK => ?_)
                  go_big_quiet_op
                  refine hK _ ?_
                  clear hK K
                  refine Leg.QW.want (by kernel_rfl) (fun K hK => ?_)
                  go_big_quiet_op
                  refine hK _ ?_
                  clear hK K
                  refine Leg.QW.want (by kernel_rfl) (fun K hK => ?_)
                  go_big_quiet_op
                  refine ⟨_, fun _ => cA _ _, hK _ ?_⟩
                  clear hK K
                  refine Leg.QW.want (by kernel_rfl) (fun K hK => ?_)
                  go_big_quiet_op
                  refine hK _ ?_
                  clear hK K
                  refine Leg.QW.want (by kernel_rfl) (fun K hK => ?_)
                  go_big_quiet_op
                  refine hK _ ?_
                  clear hK K
                  refine Leg.QW.skip (by kernel_rfl) ?_
                  refine Leg.QW.skip (by kernel_rfl) ?_
                  refine Leg.QW.skip (by kernel_rfl) ?_
                  refine Leg.QW.skip (by kernel_rfl) ?_
                  refine Leg.QW.skip (by kernel_rfl) ?_
                  refine Leg.QW.skip (by kernel_rfl) ?_
                  refine Leg.QW.skip (by kernel_rfl) ?_
                  refine Leg.QW.skip (by kernel_rfl) ?_
                  refine Leg.QW.skip (by kernel_rfl) ?_
                  refine Leg.QW.skip (by kernel_rfl) ?_
                  refine Leg.QW.skip (by kernel_rfl) ?_
                  refine Leg.QW.skip (by kernel_rfl) ?_
                  refine Leg.QW.skip (by kernel_rfl) ?_
                  refine Leg.QW.skip (by kernel_rfl) ?_
                  refine Leg.QW.skip (by kernel_rfl) ?_
                  refine Leg.QW.skip (by kernel_rfl) ?_
                  refine Leg.QW.skip (by kernel_rfl) ?_
                  refine Leg.QW.want (by kernel_rfl) (fun K hK => ?_)
                  go_simp
                  refine hK _ ?_
                  clear hK K
                  refine Leg.QW.nil ?_
                  intro _ hw'
                  obtain ⟨⟨dq, osq⟩, hw''⟩ := hw'
                  subst hw''
                  have hbq := hB.trans ((below_regrown wr dq osq).mono hsz)
                  clear hB
                  generalize grow (redrawn wr dq) osq = w9 at hbq ⊢
                  go_wp2
                  go_ret
                  exact ⟨by rw [HF.out]; rfl, box_under hbq⟩
              · have hk00 : k = 0 := by omega
                have hd0 : decide ((0 : Int) < (k : Int)) = false := by simp; omega
                have HYES : Hid (StepOk (l[k]'hlt) → RowTo l (k + 1)) := fun h1 => hpre.out.next hlt h1 (fun h0 => absurd h0 hk0)
                generalize l[k]'hlt = sc at *
                obtain ⟨x, y, lo, hi, fr, up, hd⟩ := sc
                simp only at f0 f1 f2 f3 f4 f5 f6
                clear HALL HNO HNN hU hpre h hk00
                by_cases hs : StepOk (x, y, lo, hi, fr, up, hd)
                · have HF : Hid (RowTo l (k + 1)) := HYES.out hs
                  clear HYES HNO'
                  go_wp2_with fail
                  have cA : ∀ dd os, Calls Try.prog 69 #[.agg #[.int .i64 x, .int .i64 y, .int .i64 lo, .int .i64 hi, .int .i64 fr, .int .i64 up, .bool hd]] (grow (redrawn wr dd) os) (fun e w'' => e = .returned (.bool true) ∧ ∃ p : Regrown, w'' = grow (redrawn wr p.d) p.os) := fun dd os => Calls.regrown_of (by have := sStep (x, y, lo, hi, fr, up, hd) (grow (redrawn wr dd) os); rw [pb_yes hs] at this; exact this)
                  clear hs
                  have b2 := cell_regrown z2
                  have g0 := cell_regrown f0
                  have g1 := cell_regrown f1
                  have g2 := cell_regrown f2
                  have g3 := cell_regrown f3
                  have g4 := cell_regrown f4
                  have g5 := cell_regrown f5
                  have g6 := cell_regrown f6
                  clear z2 f0 f1 f2 f3 f4 f5 f6
                  refine Leg.wp_region_qw (by kernel_rfl) (by kernel_rfl) ?_
                  refine Leg.QW.want (by kernel_rfl) (fun K hK => ?_)
                  go_big_quiet_op
                  refine hK _ ?_
                  clear hK K
                  refine Leg.QW.want (by kernel_rfl) (fun K hK => ?_)
                  go_big_quiet_op
                  refine hK _ ?_
                  clear hK K
                  refine Leg.QW.want (by kernel_rfl) (fun K hK => ?_)
                  go_big_quiet_op
                  refine hK _ ?_
                  clear hK K
                  refine Leg.QW.want (by kernel_rfl) (fun K hK => ?_)
                  go_big_quiet_op
                  refine hK _ ?_
                  clear hK K
                  refine Leg.QW.want (by kernel_rfl) (fun K hK => ?_)
                  go_big_quiet_op
                  refine hK _ ?_
                  clear hK K
                  refine Leg.QW.want (by kernel_rfl) (fun K hK => ?_)
                  go_big_quiet_op
                  refine ⟨_, fun _ => cA _ _, hK _ ?_⟩
                  clear hK K
                  refine Leg.QW.want (by kernel_rfl) (fun K hK => ?_)
                  go_big_quiet_op
                  refine hK _ ?_
                  clear hK K
                  refine Leg.QW.want (by kernel_rfl) (fun K hK => ?_)
                  go_big_quiet_op
                  refine hK _ ?_
                  clear hK K
                  refine Leg.QW.want (by kernel_rfl) (fun K hK => ?_)
                  go_big_quiet_op
                  refine hK _ ?_
                  clear hK K
                  refine Leg.QW.want (by kernel_rfl) (fun K hK => ?_)
                  go_big_quiet_op
                  refine hK _ ?_
                  clear hK K
                  refine Leg.QW.want (by kernel_rfl) (fun K hK => ?_)
                  go_big_quiet_op
                  refine hK _ ?_
                  clear hK K
                  refine Leg.QW.skip (by kernel_rfl) ?_
                  refine Leg.QW.skip (by kernel_rfl) ?_
                  refine Leg.QW.skip (by kernel_rfl) ?_
                  refine Leg.QW.skip (by kernel_rfl) ?_
                  refine Leg.QW.skip (by kernel_rfl) ?_
                  refine Leg.QW.skip (by kernel_rfl) ?_
                  refine Leg.QW.skip (by kernel_rfl) ?_
                  refine Leg.QW.skip (by kernel_rfl) ?_
                  refine Leg.QW.skip (by kernel_rfl) ?_
                  refine Leg.QW.skip (by kernel_rfl) ?_
                  refine Leg.QW.skip (by kernel_rfl) ?_
                  refine Leg.QW.skip (by kernel_rfl) ?_
                  refine Leg.QW.skip (by kernel_rfl) ?_
                  refine Leg.QW.want (by kernel_rfl) (fun K hK => ?_)
                  go_simp
                  refine hK _ ?_
                  clear hK K
                  refine Leg.QW.want (by kernel_rfl) (fun K hK => ?_)
                  go_big_quiet_op
                  refine hK _ ?_
                  clear hK K
                  refine Leg.QW.nil ?_
                  intro _ hw'
                  obtain ⟨⟨dq, osq⟩, hw''⟩ := hw'
                  subst hw''
                  have hbq := hB.trans ((below_regrown wr dq osq).mono hsz)
                  clear hB
                  generalize grow (redrawn wr dq) osq = w9 at hbq ⊢
                  go_wp2
                  go_roundw
                  case rel => exact ⟨k + 1, by omega, by go_num, HF, hbq⟩
                  case measure => simp [intOf]; omega
                · have HF : Hid (pb (PathOk ((q, s), l, f, u)) = false) := HNO'.out hs
                  clear HYES HNO'
                  go_wp2_with fail
                  have cA : ∀ dd os, Calls Try.prog 69 #[.agg #[.int .i64 x, .int .i64 y, .int .i64 lo, .int .i64 hi, .int .i64 fr, .int .i64 up, .bool hd]] (grow (redrawn wr dd) os) (fun e w'' => e = .returned (.bool false) ∧ ∃ p : Regrown, w'' = grow (redrawn wr p.d) p.os) := fun dd os => Calls.regrown_of (by have := sStep (x, y, lo, hi, fr, up, hd) (grow (redrawn wr dd) os); rw [pb_no hs] at this; exact this)
                  clear hs
                  have b2 := cell_regrown z2
                  have g0 := cell_regrown f0
                  have g1 := cell_regrown f1
                  have g2 := cell_regrown f2
                  have g3 := cell_regrown f3
                  have g4 := cell_regrown f4
                  have g5 := cell_regrown f5
                  have g6 := cell_regrown f6
                  clear z2 f0 f1 f2 f3 f4 f5 f6
                  refine Leg.wp_region_qw (by kernel_rfl) (by kernel_rfl) ?_
                  refine Leg.QW.want (by kernel_rfl) (fun K hK => ?_)
                  go_big_quiet_op
                  refine hK _ ?_
                  clear hK K
                  refine Leg.QW.want (by kernel_rfl) (fun K hK => ?_)
                  go_big_quiet_op
                  refine hK _ ?_
                  clear hK K
                  refine Leg.QW.want (by kernel_rfl) (fun K hK => ?_)
                  go_big_quiet_op
                  refine hK _ ?_
                  clear hK K
                  refine Leg.QW.want (by kernel_rfl) (fun K hK => ?_)
                  go_big_quiet_op
                  refine hK _ ?_
                  clear hK K
                  refine Leg.QW.want (by kernel_rfl) (fun K hK => ?_)
                  go_big_quiet_op
                  refine hK _ ?_
                  clear hK K
                  refine Leg.QW.want (by kernel_rfl) (fun K hK => ?_)
                  go_big_quiet_op
                  refine ⟨_, fun _ => cA _ _, hK _ ?_⟩
                  clear hK K
                  refine Leg.QW.want (by kernel_rfl) (fun K hK => ?_)
                  go_big_quiet_op
                  refine hK _ ?_
                  clear hK K
                  refine Leg.QW.want (by kernel_rfl) (fun K hK => ?_)
                  go_big_quiet_op
                  refine hK _ ?_
                  clear hK K
                  refine Leg.QW.skip (by kernel_rfl) ?_
                  refine Leg.QW.skip (by kernel_rfl) ?_
                  refine Leg.QW.skip (by kernel_rfl) ?_
                  refine Leg.QW.skip (by kernel_rfl) ?_
                  refine Leg.QW.skip (by kernel_rfl) ?_
                  refine Leg.QW.skip (by kernel_rfl) ?_
                  refine Leg.QW.skip (by kernel_rfl) ?_
                  refine Leg.QW.skip (by kernel_rfl) ?_
                  refine Leg.QW.skip (by kernel_rfl) ?_
                  refine Leg.QW.skip (by kernel_rfl) ?_
                  refine Leg.QW.skip (by kernel_rfl) ?_
                  refine Leg.QW.skip (by kernel_rfl) ?_
                  refine Leg.QW.skip (by kernel_rfl) ?_
                  refine Leg.QW.skip (by kernel_rfl) ?_
                  refine Leg.QW.skip (by kernel_rfl) ?_
                  refine Leg.QW.skip (by kernel_rfl) ?_
                  refine Leg.QW.skip (by kernel_rfl) ?_
                  refine Leg.QW.want (by kernel_rfl) (fun K hK => ?_)
                  go_simp
                  refine hK _ ?_
                  clear hK K
                  refine Leg.QW.nil ?_
                  intro _ hw'
                  obtain ⟨⟨dq, osq⟩, hw''⟩ := hw'
                  subst hw''
                  have hbq := hB.trans ((below_regrown wr dq osq).mono hsz)
                  clear hB
                  generalize grow (redrawn wr dq) osq = w9 at hbq ⊢
                  go_wp2
                  go_ret
                  exact ⟨by rw [HF.out]; rfl, box_under hbq⟩
            · have hke : k = l.length := by omega
              subst hke
              have HF : Hid (pb (PathOk ((q, s), l, f, u)) = true) := HALL.out hpre.out
              have hbq := hB
              clear hpre h HALL HNO HNN hB
              go_wp2
              go_ret
              exact ⟨by rw [HF.out]; rfl, box_under hbq⟩
        · have HF : Hid (pb (PathOk ((q, s), l, f, u)) = false) := pb_no fun h2 => hk4 h2.2.2.2.2.2.2
          clear h
          go_enter Try.func37, Try.ntmps37
          go_wp2_with (first | (go_at_call 67; refine (HK _).mono ?_; rintro e w1 ⟨rfl, hb1⟩; have hB1 := hb1; have z2 := (hb1.cell (p := ⟨w.heap.size, 2, none⟩) (by simp)).trans (show _ = some (Value.slice ao l.length cap) by go_simp); have z3 := (hb1.cell (p := ⟨w.heap.size, 3, none⟩) (by simp)).trans (show _ = some (Value.int .i64 f) by go_simp); have z4 := (hb1.cell (p := ⟨w.heap.size, 4, none⟩) (by simp)).trans (show _ = some (Value.int .i64 u) by go_simp); have hzz := hb1.size; simp at hzz; clear hb1) | (go_at_call 68; refine (sin_yes _ _ _ _ (by assumption)).mono ?_; rintro e w' ⟨rfl, rfl⟩) | (go_at_call 68; refine (sin_no _ _ _ _ (by assumption)).mono ?_; rintro e w' ⟨rfl, rfl⟩))
          go_ret
          exact ⟨by rw [HF.out]; first | rfl | (simp; done) | (simp; omega), box_under (hB1.mono (by simp))⟩
      · have HF : Hid (pb (PathOk ((q, s), l, f, u)) = false) := pb_no fun h2 => hk3 ⟨h2.2.2.2.2.1, h2.2.2.2.2.2.1⟩
        clear h
        go_enter Try.func37, Try.ntmps37
        go_wp2_with (first | (go_at_call 67; refine (HK _).mono ?_; rintro e w1 ⟨rfl, hb1⟩; have hB1 := hb1; have z2 := (hb1.cell (p := ⟨w.heap.size, 2, none⟩) (by simp)).trans (show _ = some (Value.slice ao l.length cap) by go_simp); have z3 := (hb1.cell (p := ⟨w.heap.size, 3, none⟩) (by simp)).trans (show _ = some (Value.int .i64 f) by go_simp); have z4 := (hb1.cell (p := ⟨w.heap.size, 4, none⟩) (by simp)).trans (show _ = some (Value.int .i64 u) by go_simp); have hzz := hb1.size; simp at hzz; clear hb1) | (go_at_call 68; refine (sin_yes _ _ _ _ (by assumption)).mono ?_; rintro e w' ⟨rfl, rfl⟩) | (go_at_call 68; refine (sin_no _ _ _ _ (by assumption)).mono ?_; rintro e w' ⟨rfl, rfl⟩))
        go_ret
        exact ⟨by rw [HF.out]; first | rfl | (simp; done) | (simp; omega), box_under (hB1.mono (by simp))⟩
    · have HF : Hid (pb (PathOk ((q, s), l, f, u)) = false) := pb_no fun h2 => hk2 ⟨by have := h2.2.1.1; show (1 : Int) ≤ (l.length : Int); simp only at this; omega, by have := h2.2.1.2; show (l.length : Int) ≤ 40; simp only at this; omega⟩
      clear h
      go_enter Try.func37, Try.ntmps37
      go_wp2_with (first | (go_at_call 67; refine (HK _).mono ?_; rintro e w1 ⟨rfl, hb1⟩; have hB1 := hb1; have z2 := (hb1.cell (p := ⟨w.heap.size, 2, none⟩) (by simp)).trans (show _ = some (Value.slice ao l.length cap) by go_simp); have z3 := (hb1.cell (p := ⟨w.heap.size, 3, none⟩) (by simp)).trans (show _ = some (Value.int .i64 f) by go_simp); have z4 := (hb1.cell (p := ⟨w.heap.size, 4, none⟩) (by simp)).trans (show _ = some (Value.int .i64 u) by go_simp); have hzz := hb1.size; simp at hzz; clear hb1) | (go_at_call 68; refine (sin_yes _ _ _ _ (by assumption)).mono ?_; rintro e w' ⟨rfl, rfl⟩) | (go_at_call 68; refine (sin_no _ _ _ _ (by assumption)).mono ?_; rintro e w' ⟨rfl, rfl⟩))
      go_ret
      exact ⟨by rw [HF.out]; first | rfl | (simp; done) | (simp; omega), box_under (hB1.mono (by simp))⟩
  · have HF : Hid (pb (PathOk ((q, s), l, f, u)) = false) := pb_no fun h2 => hk1 h2.1
    rw [pb_no hk1] at HK
    clear h
    go_enter Try.func37, Try.ntmps37
    go_wp2_with (first | (go_at_call 67; refine (HK _).mono ?_; rintro e w1 ⟨rfl, hb1⟩; have hB1 := hb1; have z2 := (hb1.cell (p := ⟨w.heap.size, 2, none⟩) (by simp)).trans (show _ = some (Value.slice ao l.length cap) by go_simp); have z3 := (hb1.cell (p := ⟨w.heap.size, 3, none⟩) (by simp)).trans (show _ = some (Value.int .i64 f) by go_simp); have z4 := (hb1.cell (p := ⟨w.heap.size, 4, none⟩) (by simp)).trans (show _ = some (Value.int .i64 u) by go_simp); have hzz := hb1.size; simp at hzz; clear hb1) | (go_at_call 68; refine (sin_yes _ _ _ _ (by assumption)).mono ?_; rintro e w' ⟨rfl, rfl⟩) | (go_at_call 68; refine (sin_no _ _ _ _ (by assumption)).mono ?_; rintro e w' ⟨rfl, rfl⟩))
    go_ret
    exact ⟨by rw [HF.out]; first | rfl | (simp; done) | (simp; omega), box_under (hB1.mono (by simp))⟩

theorem sPathOk (x : DFlyPath) (ao : Option Addr) (cap : Nat) (w : World) (h : SliceAt vFlyStep (old w) w ao cap x.2.1) :
    Calls Try.prog 37 #[.agg #[.int .i64 x.1.1, .int .i64 x.1.2, .slice ao x.2.1.length cap, .int .i64 x.2.2.1, .int .i64 x.2.2.2]] w fun e w' => e = .returned (.bool (pb (PathOk x))) ∧ Below w.heap.size w w' :=
  sPathOk_any x.1.1 x.1.2 x.2.2.1 x.2.2.2 ao cap x.2.1 w h

end Fly
end Go.Proofs.Ytpjacfnjjkoikaa
