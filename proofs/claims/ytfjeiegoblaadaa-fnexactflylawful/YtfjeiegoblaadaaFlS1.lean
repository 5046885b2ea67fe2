/- DERIVED. spec.FlyLawful: its walk (written by wip/tools/mk_fls1.py). -/
import Derived.Test.YtfjeiegoblaadaaFlS0
namespace Go.Proofs.Ytfjeiegoblaadaa
namespace Fly
open Go.RowKit Go.Sort
set_option linter.unusedSimpArgs false
set_option linter.unusedVariables false

/-- The first k ticks lie in their windows, and keep to their stays. -/
def LawTo (x : DFlyPath) (f : List Int) (k : Nat) : Prop := ∀ i (h : i < f.length), i < k → InR f[i] (lowAt x i) (highAt x i) ∧ ∀ h0 : 0 < i, InR (f[i] - f[i - 1]'(by omega)) x.1.1 (mostAt x (i - 1))
theorem LawTo.next {x : DFlyPath} {f : List Int} {k : Nat} (h : LawTo x f k) (hk : k < f.length) (hw : InR f[k] (lowAt x k) (highAt x k)) (hs : ∀ h0 : 0 < k, InR (f[k] - f[k - 1]'(by omega)) x.1.1 (mostAt x (k - 1))) : LawTo x f (k + 1) := fun i hi hik => by
  by_cases e : i = k
  · subst e; exact ⟨hw, hs⟩
  · exact h i hi (by omega)
theorem LawTo.all {x : DFlyPath} {f : List Int} (h : LawTo x f f.length) : Windows x f ∧ Stays x f :=
  ⟨fun i hi => (h i hi hi).1, fun i hi => (h (i + 1) hi hi).2 (by omega)⟩

set_option maxRecDepth 100000 in
set_option maxHeartbeats 8000000 in
theorem sLawful (x : DFlyPath) (f : List Int) (ao : Option Addr) (cap : Nat) (bo : Option Addr) (bc : Nat) (w : World) (h : PathAt w x ao cap) (hf : SliceAt vInt (old w) w bo bc f) :
    Calls Try.prog 15 #[.agg #[.int .i64 x.1.1, .int .i64 x.1.2, .slice ao x.2.1.length cap, .int .i64 x.2.2.1, .int .i64 x.2.2.2], .slice bo f.length bc] w fun e w' => e = .returned (.bool (pb (Lawful x f))) ∧ Below w.heap.size w w' := by
  have hcl := h.1
  have hcm : cap ≤ 9223372036854775807 := h.2.1
  have hfl := hf.1
  have hfm : bc ≤ 9223372036854775807 := hf.2.1
  have HB0 : Below w.heap.size w (w.alloc (.cells #[.int .i64 x.1.1, .int .i64 x.1.2, .slice ao x.2.1.length cap, .int .i64 x.2.2.1, .int .i64 x.2.2.2] 35)) := (Below.refl _ _).alloc (Nat.le_refl _) _
  have HK := fun W hh => sPathOk x ao cap W hh
  have hA := h.later HB0
  by_cases hp : PathOk x
  · have hn1 := hp.2.1.1
    have hn2 := hp.2.1.2
    by_cases hl : f.length = x.2.1.length + 1
    · have HALL : Hid (LawTo x f f.length → pb (Lawful x f) = true) := fun hr => pb_yes ⟨hp, hl, hr.all.1, hr.all.2⟩
      have HNW : Hid (∀ i (hi : i < f.length), ¬ InR f[i] (lowAt x i) (highAt x i) → pb (Lawful x f) = false) := fun i hi h1 => pb_no fun h2 => h1 (h2.2.2.1 i hi)
      have HNS : Hid (∀ i (hi : i < f.length) (h0 : 0 < i), ¬ InR (f[i] - f[i - 1]'(by omega)) x.1.1 (mostAt x (i - 1)) → pb (Lawful x f) = false) := fun i hi h0 h1 => pb_no fun h2 => h1 (by
        have := h2.2.2.2 (i - 1) (show i - 1 + 1 < f.length by omega)
        simp only [Nat.sub_add_cancel (show 1 ≤ i by omega)] at this
        exact this)
      have HRG : Hid (∀ k, 0 ≤ lowAt x k ∧ highAt x k ≤ 10000) := win_range hp
      obtain ⟨hq1, hq2, hq3⟩ := kind_range hp
      rw [pb_yes hp] at HK
      have HKA := HK _ hA
      clear hp HK hA
      go_enter Try.func15, Try.ntmps15
      go_wp2_with fail
      refine HKA.mono ?_
      rintro e w1 ⟨rfl, hb1⟩
      clear HKA
      have hB1 : Below (w.heap.size + 1) (w.alloc (.cells #[.int .i64 x.1.1, .int .i64 x.1.2, .slice ao x.2.1.length cap, .int .i64 x.2.2.1, .int .i64 x.2.2.2] 35)) w1 := hb1.mono (by simp)
      have z2 := box_at hB1 2
      simp at z2
      have hzz : w.heap.size < w1.heap.size := by have := hb1.size; simp at this; omega
      have hfI : (f.length : Int) = (x.2.1.length : Int) + 1 := by omega
      clear hb1
      go_wp2
      clear z2 hzz
      go_loopw [5] (fun i wr => ∃ k : Nat, k ≤ f.length ∧ i = .int .i64 k ∧ Hid (LawTo x f k) ∧ Below (w.heap.size + 1) (w.alloc (.cells #[.int .i64 x.1.1, .int .i64 x.1.2, .slice ao x.2.1.length cap, .int .i64 x.2.2.1, .int .i64 x.2.2.2] 35)) wr) (fun i _ => f.length - (intOf i).toNat)
      case atStart => exact ⟨0, Nat.zero_le _, rfl, fun j _ hj => by omega, hB1⟩
      clear hB1
      case round =>
        obtain ⟨k, hk, rfl, hpre, hB⟩ := hrel
        by_cases hlt : k < f.length
        · obtain ⟨g, off, rfl, hok, c0, _⟩ := elem_Int hf hlt
          have fa := ((box_under hB).cell (p := ⟨g, off + k, none⟩) hok).trans c0
          have hkI : (k : Int) < (f.length : Int) := by omega
          have HNW' : Hid (¬ InR (f[k]'hlt) (lowAt x k) (highAt x k) → pb (Lawful x f) = false) := HNW.out k hlt
          have HRK := HRG.out k
          obtain ⟨lo, elo⟩ : ∃ lo, lowAt x k = lo := ⟨_, rfl⟩
          obtain ⟨hi, ehi⟩ : ∃ hi, highAt x k = hi := ⟨_, rfl⟩
          by_cases hk0 : 0 < k
          · have hkp : k - 1 < f.length := by omega
            have hkl : k - 1 < x.2.1.length := by omega
            have hkc : ((k - 1 : Nat) : Int) = (k : Int) - 1 := by omega
            obtain ⟨g', off', hbo, _, d0, _⟩ := elem_Int hf hkp
            cases hbo
            have hd0 : decide ((0 : Int) < (k : Int)) = true := by simp; omega
            have hkI1 : (k : Int) - 1 < (f.length : Int) := by omega
            have hkN : ((k : Int) - 1).toNat = k - 1 := by omega
            have hk1I : (1 : Int) ≤ (k : Int) := by omega
            have hkW : IntKind.i64.wrap ((k : Int) - 1) = (k : Int) - 1 := by rw [IntKind.wrap_i64]; all_goals omega
            have HNS' : Hid (¬ InR (f[k]'hlt - f[k - 1]'hkp) x.1.1 (mostAt x (k - 1)) → pb (Lawful x f) = false) := HNS.out k hlt hk0
            have hpv : InR (f[k - 1]'hkp) (lowAt x (k - 1)) (highAt x (k - 1)) := (hpre.out (k - 1) hkp (by omega)).1
            have hpr : 0 ≤ f[k - 1]'hkp ∧ f[k - 1]'hkp ≤ 10000 := by have h1 := HRG.out (k - 1); have h2 := hpv.1; have h3 := hpv.2; omega
            have HYES : Hid (InR (f[k]'hlt) (lowAt x k) (highAt x k) → InR (f[k]'hlt - f[k - 1]'hkp) x.1.1 (mostAt x (k - 1)) → LawTo x f (k + 1)) := fun h1 h2 => hpre.out.next hlt h1 (fun _ => h2)
            obtain ⟨mo, emo⟩ : ∃ mo, mostAt x (k - 1) = mo := ⟨_, rfl⟩
            rw [elo, ehi] at HNW' HRK HYES
            rw [emo] at HNS' HYES
            generalize f[k - 1]'hkp = a' at *
            generalize f[k]'hlt = a at *
            clear HALL HNW HNS HRG hpre hpv hf hkp
            by_cases hi1 : InR a lo hi
            · have haw : IntKind.i64.wrap (a - a') = a - a' := by have h1 := hi1.1; have h2 := hi1.2; rw [IntKind.wrap_i64] <;> omega
              have HY2 : Hid (InR (a - a') x.1.1 mo → LawTo x f (k + 1)) := HYES.out hi1
              clear HYES HNW'
              by_cases hi2 : InR (a - a') x.1.1 mo
              · have HF : Hid (LawTo x f (k + 1)) := HY2.out hi2
                clear HY2 HNS'
                go_wp2_with fail
                have cL : ∀ dd os, Calls Try.prog 33 #[.agg #[.int .i64 x.1.1, .int .i64 x.1.2, .slice ao x.2.1.length cap, .int .i64 x.2.2.1, .int .i64 x.2.2.2], .int .i64 (k : Int)] (grow (redrawn wr dd) os) (fun e w'' => e = .returned (.int .i64 lo) ∧ ∃ p : Regrown, w'' = grow (redrawn wr p.d) p.os) := fun dd os => Calls.regrown_of (by have := sLow x ao cap k (grow (redrawn wr dd) os) (h.later ((box_under hB).trans ((below_regrown wr dd os).mono (by have := hB.size; simp at this; omega)))); rw [elo] at this; exact this)
                have cH : ∀ dd os, Calls Try.prog 34 #[.agg #[.int .i64 x.1.1, .int .i64 x.1.2, .slice ao x.2.1.length cap, .int .i64 x.2.2.1, .int .i64 x.2.2.2], .int .i64 (k : Int)] (grow (redrawn wr dd) os) (fun e w'' => e = .returned (.int .i64 hi) ∧ ∃ p : Regrown, w'' = grow (redrawn wr p.d) p.os) := fun dd os => Calls.regrown_of (by have := sHigh x ao cap k (grow (redrawn wr dd) os) (h.later ((box_under hB).trans ((below_regrown wr dd os).mono (by have := hB.size; simp at this; omega)))); rw [ehi] at this; exact this)
                have cI : ∀ dd os, Calls Try.prog 21 #[.int .i64 a, .int .i64 lo, .int .i64 hi] (grow (redrawn wr dd) os) (fun e w'' => e = .returned (.bool true) ∧ ∃ p : Regrown, w'' = grow (redrawn wr p.d) p.os) := fun dd os => Calls.regrown_of ((sin_b a lo hi (grow (redrawn wr dd) os) true (pb_yes hi1)).mono (fun e w' hh => ⟨hh.1, by rw [← hh.2]; exact Below.refl _ _⟩))
                have z0 := box_at hB 0
                have z1 := box_at hB 1
                have z2 := box_at hB 2
                have z3 := box_at hB 3
                have z4 := box_at hB 4
                simp at z0 z1 z2 z3 z4
                have gz0 := cell_regrown z0
                have gz1 := cell_regrown z1
                have gz2 := cell_regrown z2
                have gz3 := cell_regrown z3
                have gz4 := cell_regrown z4
                have gfa := cell_regrown fa
                clear z0 z1 z2 z3 z4 fa
                have hcL := cL
                have hcH := cH
                clear hcL hcH
                refine Leg.wp_region_qw (by kernel_rfl) (by kernel_rfl) ?_
                refine Leg.QW.want (by kernel_rfl) (fun K hK => ?_)
                go_big_quiet_op
                refine hK _ ?_
                clear hK K
                refine Leg.QW.want (by kernel_rfl) (fun K hK => ?_)
                go_big_quiet_op
                refine hK _ ?_
                clear hK K
                refine Leg.QW.want (by kernel_rfl) (fun K hK => ?_)
                go_big_quiet_op
                refine hK _ ?_
                clear hK K
                refine Leg.QW.want (by kernel_rfl) (fun K hK => ?_)
                go_big_quiet_op
                refine hK _ ?_
                clear hK K
                refine Leg.QW.want (by kernel_rfl) (fun K hK => ?_)
                go_big_quiet_op
                refine hK _ ?_
                clear hK K
                refine Leg.QW.want (by kernel_rfl) (fun K hK => ?_)
                go_big_quiet_op
                refine hK _ ?_
                clear hK K
                refine Leg.QW.want (by kernel_rfl) (fun K hK => ?_)
                go_big_quiet_op
                refine ⟨_, fun _ => cL _ _, hK _ ?_⟩
                clear hK K
                refine Leg.QW.want (by kernel_rfl) (fun K hK => ?_)
                go_big_quiet_op
                refine hK _ ?_
                clear hK K
                refine Leg.QW.want (by kernel_rfl) (fun K hK => ?_)
                go_big_quiet_op
                refine hK _ ?_
                clear hK K
                refine Leg.QW.want (by kernel_rfl) (fun K hK => ?_)
                go_big_quiet_op
                refine ⟨_, fun _ => cH _ _, hK _ ?_⟩
                clear hK K
                refine Leg.QW.want (by kernel_rfl) (fun K hK => ?_)
                go_big_quiet_op
                refine ⟨_, fun _ => cI _ _, hK _ ?_⟩
                clear hK K
                refine Leg.QW.want (by kernel_rfl) (fun K hK => ?_)
                go_big_quiet_op
                refine hK _ ?_
                clear hK K
                refine Leg.QW.nil ?_
                clear cL cH cI gz0 gz1 gz2 gz3 gz4 gfa
                intro _ hw'
                obtain ⟨⟨dq, osq⟩, hw''⟩ := hw'
                subst hw''
                have hw8 := hB.trans ((below_regrown wr dq osq).mono (by have := hB.size; simpa using this))
                clear hB
                generalize grow (redrawn wr dq) osq = w8 at hw8 ⊢
                go_wp2_with fail
                have cM : ∀ dd os, Calls Try.prog 35 #[.agg #[.int .i64 x.1.1, .int .i64 x.1.2, .slice ao x.2.1.length cap, .int .i64 x.2.2.1, .int .i64 x.2.2.2], .int .i64 ((k : Int) - 1)] (grow (redrawn w8 dd) os) (fun e w'' => e = .returned (.int .i64 mo) ∧ ∃ p : Regrown, w'' = grow (redrawn w8 p.d) p.os) := fun dd os => Calls.regrown_of (by have := sMost x ao cap (k - 1) (grow (redrawn w8 dd) os) (h.later ((box_under hw8).trans ((below_regrown w8 dd os).mono (by have := hw8.size; simp at this; omega)))) hkl; rw [emo, hkc] at this; exact this)
                have cJ : ∀ dd os, Calls Try.prog 21 #[.int .i64 (a - a'), .int .i64 x.1.1, .int .i64 mo] (grow (redrawn w8 dd) os) (fun e w'' => e = .returned (.bool true) ∧ ∃ p : Regrown, w'' = grow (redrawn w8 p.d) p.os) := fun dd os => Calls.regrown_of ((sin_b (a - a') x.1.1 mo (grow (redrawn w8 dd) os) true (pb_yes hi2)).mono (fun e w' hh => ⟨hh.1, by rw [← hh.2]; exact Below.refl _ _⟩))
                have z0 := box_at hw8 0
                have z1 := box_at hw8 1
                have z2 := box_at hw8 2
                have z3 := box_at hw8 3
                have z4 := box_at hw8 4
                simp at z0 z1 z2 z3 z4
                have fa := ((box_under hw8).cell (p := ⟨g, off + k, none⟩) hok).trans c0
                have fb := ((box_under hw8).cell (p := ⟨g, off + (k - 1), none⟩) hok).trans d0
                have gz0 := cell_regrown z0
                have gz1 := cell_regrown z1
                have gz2 := cell_regrown z2
                have gz3 := cell_regrown z3
                have gz4 := cell_regrown z4
                have gfa := cell_regrown fa
                have gfb := cell_regrown fb
                clear z0 z1 z2 z3 z4 fa fb
                refine Leg.wp_region_qw (by kernel_rfl) (by kernel_rfl) ?_
                refine Leg.QW.want (by kernel_rfl) (fun K hK => ?_)
                go_big_quiet_op
                refine hK _ ?_
                clear hK K
                refine Leg.QW.want (by kernel_rfl) (fun K hK => ?_)
                go_big_quiet_op
                refine hK _ ?_
                clear hK K
                refine Leg.QW.want (by kernel_rfl) (fun K hK => ?_)
                go_big_quiet_op
                refine hK _ ?_
                clear hK K
                refine Leg.QW.want (by kernel_rfl) (fun K hK => ?_)
                go_big_quiet_op
                refine hK _ ?_
                clear hK K
                refine Leg.QW.want (by kernel_rfl) (fun K hK => ?_)
                go_big_quiet_op
                refine hK _ ?_
                clear hK K
                refine Leg.QW.want (by kernel_rfl) (fun K hK => ?_)
                go_big_quiet_op
                refine hK _ ?_
                clear hK K
                refine Leg.QW.want (by kernel_rfl) (fun K hK => ?_)
                go_big_quiet_op
                refine hK _ ?_
                clear hK K
                refine Leg.QW.want (by kernel_rfl) (fun K hK => ?_)
                go_big_quiet_op
                refine hK _ ?_
                clear hK K
                refine Leg.QW.want (by kernel_rfl) (fun K hK => ?_)
                go_big_quiet_op
                refine hK _ ?_
                clear hK K
                refine Leg.QW.want (by kernel_rfl) (fun K hK => ?_)
                go_big_quiet_op
                refine hK _ ?_
                clear hK K
                refine Leg.QW.want (by kernel_rfl) (fun K hK => ?_)
                go_big_quiet_op
                refine hK _ ?_
                clear hK K
                refine Leg.QW.want (by kernel_rfl) (fun K hK => ?_)
                go_big_quiet_op
                refine hK _ ?_
                clear hK K
                refine Leg.QW.want (by kernel_rfl) (fun K hK => ?_)
                go_big_quiet_op
                refine hK _ ?_
                clear hK K
                refine Leg.QW.want (by kernel_rfl) (fun K hK => ?_)
                go_big_quiet_op
                refine hK _ ?_
                clear hK K
                refine Leg.QW.want (by kernel_rfl) (fun K hK => ?_)
                go_big_quiet_op
                refine hK _ ?_
                clear hK K
                refine Leg.QW.want (by kernel_rfl) (fun K hK => ?_)
                go_big_quiet_op
                refine hK _ ?_
                clear hK K
                refine Leg.QW.want (by kernel_rfl) (fun K hK => ?_)
                go_big_quiet_op
                refine hK _ ?_
                clear hK K
                refine Leg.QW.want (by kernel_rfl) (fun K hK => ?_)
                go_big_quiet_op
                refine hK _ ?_
                clear hK K
                refine Leg.QW.want (by kernel_rfl) (fun K hK => ?_)
                go_big_quiet_op
                refine hK _ ?_
                clear hK K
                refine Leg.QW.want (by kernel_rfl) (fun K hK => ?_)
                go_big_quiet_op
                refine ⟨_, fun _ => cM _ _, hK _ ?_⟩
                clear hK K
                refine Leg.QW.want (by kernel_rfl) (fun K hK => ?_)
                go_big_quiet_op
                refine ⟨_, fun _ => cJ _ _, hK _ ?_⟩
                clear hK K
                refine Leg.QW.want (by kernel_rfl) (fun K hK => ?_)
                go_big_quiet_op
                refine hK _ ?_
                clear hK K
                refine Leg.QW.want (by kernel_rfl) (fun K hK => ?_)
                go_big_quiet_op
                refine hK _ ?_
                clear hK K
                refine Leg.QW.nil ?_
                clear gz0 gz1 gz2 gz3 gz4 gfa gfb cM cJ
                intro _ hw'
                obtain ⟨⟨dq, osq⟩, hw''⟩ := hw'
                subst hw''
                have hw9 := hw8.trans ((below_regrown w8 dq osq).mono (by have := hw8.size; simpa using this))
                clear hw8
                generalize grow (redrawn w8 dq) osq = w9 at hw9 ⊢
                go_wp2
                go_roundw
                case rel => exact ⟨k + 1, by omega, by go_num, HF, hw9⟩
                case measure => simp [intOf]; omega
              · have HF : Hid (pb (Lawful x f) = false) := HNS'.out hi2
                clear HY2 HNS'
                go_wp2_with fail
                have cL : ∀ dd os, Calls Try.prog 33 #[.agg #[.int .i64 x.1.1, .int .i64 x.1.2, .slice ao x.2.1.length cap, .int .i64 x.2.2.1, .int .i64 x.2.2.2], .int .i64 (k : Int)] (grow (redrawn wr dd) os) (fun e w'' => e = .returned (.int .i64 lo) ∧ ∃ p : Regrown, w'' = grow (redrawn wr p.d) p.os) := fun dd os => Calls.regrown_of (by have := sLow x ao cap k (grow (redrawn wr dd) os) (h.later ((box_under hB).trans ((below_regrown wr dd os).mono (by have := hB.size; simp at this; omega)))); rw [elo] at this; exact this)
                have cH : ∀ dd os, Calls Try.prog 34 #[.agg #[.int .i64 x.1.1, .int .i64 x.1.2, .slice ao x.2.1.length cap, .int .i64 x.2.2.1, .int .i64 x.2.2.2], .int .i64 (k : Int)] (grow (redrawn wr dd) os) (fun e w'' => e = .returned (.int .i64 hi) ∧ ∃ p : Regrown, w'' = grow (redrawn wr p.d) p.os) := fun dd os => Calls.regrown_of (by have := sHigh x ao cap k (grow (redrawn wr dd) os) (h.later ((box_under hB).trans ((below_regrown wr dd os).mono (by have := hB.size; simp at this; omega)))); rw [ehi] at this; exact this)
                have cI : ∀ dd os, Calls Try.prog 21 #[.int .i64 a, .int .i64 lo, .int .i64 hi] (grow (redrawn wr dd) os) (fun e w'' => e = .returned (.bool true) ∧ ∃ p : Regrown, w'' = grow (redrawn wr p.d) p.os) := fun dd os => Calls.regrown_of ((sin_b a lo hi (grow (redrawn wr dd) os) true (pb_yes hi1)).mono (fun e w' hh => ⟨hh.1, by rw [← hh.2]; exact Below.refl _ _⟩))
                have z0 := box_at hB 0
                have z1 := box_at hB 1
                have z2 := box_at hB 2
                have z3 := box_at hB 3
                have z4 := box_at hB 4
                simp at z0 z1 z2 z3 z4
                have gz0 := cell_regrown z0
                have gz1 := cell_regrown z1
                have gz2 := cell_regrown z2
                have gz3 := cell_regrown z3
                have gz4 := cell_regrown z4
                have gfa := cell_regrown fa
                clear z0 z1 z2 z3 z4 fa
                have hcL := cL
                have hcH := cH
                clear hcL hcH
                refine Leg.wp_region_qw (by kernel_rfl) (by kernel_rfl) ?_
                refine Leg.QW.want (by kernel_rfl) (fun K hK => ?_)
                go_big_quiet_op
                refine hK _ ?_
                clear hK K
                refine Leg.QW.want (by kernel_rfl) (fun K hK => ?_)
                go_big_quiet_op
                refine hK _ ?_
                clear hK K
                refine Leg.QW.want (by kernel_rfl) (fun K hK => ?_)
                go_big_quiet_op
                refine hK _ ?_
                clear hK K
                refine Leg.QW.want (by kernel_rfl) (fun K hK => ?_)
                go_big_quiet_op
                refine hK _ ?_
                clear hK K
                refine Leg.QW.want (by kernel_rfl) (fun K hK => ?_)
                go_big_quiet_op
                refine hK _ ?_
                clear hK K
                refine Leg.QW.want (by kernel_rfl) (fun K hK => ?_)
                go_big_quiet_op
                refine hK _ ?_
                clear hK K
                refine Leg.QW.want (by kernel_rfl) (fun K hK => ?_)
                go_big_quiet_op
                refine ⟨_, fun _ => cL _ _, hK _ ?_⟩
                clear hK K
                refine Leg.QW.want (by kernel_rfl) (fun K hK => ?_)
                go_big_quiet_op
                refine hK _ ?_
                clear hK K
                refine Leg.QW.want (by kernel_rfl) (fun K hK => ?_)
                go_big_quiet_op
                refine hK _ ?_
                clear hK K
                refine Leg.QW.want (by kernel_rfl) (fun K hK => ?_)
                go_big_quiet_op
                refine ⟨_, fun _ => cH _ _, hK _ ?_⟩
                clear hK K
                refine Leg.QW.want (by kernel_rfl) (fun K hK => ?_)
                go_big_quiet_op
                refine ⟨_, fun _ => cI _ _, hK _ ?_⟩
                clear hK K
                refine Leg.QW.want (by kernel_rfl) (fun K hK => ?_)
                go_big_quiet_op
                refine hK _ ?_
                clear hK K
                refine Leg.QW.nil ?_
                clear cL cH cI gz0 gz1 gz2 gz3 gz4 gfa
                intro _ hw'
                obtain ⟨⟨dq, osq⟩, hw''⟩ := hw'
                subst hw''
                have hw8 := hB.trans ((below_regrown wr dq osq).mono (by have := hB.size; simpa using this))
                clear hB
                generalize grow (redrawn wr dq) osq = w8 at hw8 ⊢
                go_wp2_with fail
                have cM : ∀ dd os, Calls Try.prog 35 #[.agg #[.int .i64 x.1.1, .int .i64 x.1.2, .slice ao x.2.1.length cap, .int .i64 x.2.2.1, .int .i64 x.2.2.2], .int .i64 ((k : Int) - 1)] (grow (redrawn w8 dd) os) (fun e w'' => e = .returned (.int .i64 mo) ∧ ∃ p : Regrown, w'' = grow (redrawn w8 p.d) p.os) := fun dd os => Calls.regrown_of (by have := sMost x ao cap (k - 1) (grow (redrawn w8 dd) os) (h.later ((box_under hw8).trans ((below_regrown w8 dd os).mono (by have := hw8.size; simp at this; omega)))) hkl; rw [emo, hkc] at this; exact this)
                have cJ : ∀ dd os, Calls Try.prog 21 #[.int .i64 (a - a'), .int .i64 x.1.1, .int .i64 mo] (grow (redrawn w8 dd) os) (fun e w'' => e = .returned (.bool false) ∧ ∃ p : Regrown, w'' = grow (redrawn w8 p.d) p.os) := fun dd os => Calls.regrown_of ((sin_b (a - a') x.1.1 mo (grow (redrawn w8 dd) os) false (pb_no hi2)).mono (fun e w' hh => ⟨hh.1, by rw [← hh.2]; exact Below.refl _ _⟩))
                have z0 := box_at hw8 0
                have z1 := box_at hw8 1
                have z2 := box_at hw8 2
                have z3 := box_at hw8 3
                have z4 := box_at hw8 4
                simp at z0 z1 z2 z3 z4
                have fa := ((box_under hw8).cell (p := ⟨g, off + k, none⟩) hok).trans c0
                have fb := ((box_under hw8).cell (p := ⟨g, off + (k - 1), none⟩) hok).trans d0
                have gz0 := cell_regrown z0
                have gz1 := cell_regrown z1
                have gz2 := cell_regrown z2
                have gz3 := cell_regrown z3
                have gz4 := cell_regrown z4
                have gfa := cell_regrown fa
                have gfb := cell_regrown fb
                clear z0 z1 z2 z3 z4 fa fb
                refine Leg.wp_region_qw (by kernel_rfl) (by kernel_rfl) ?_
                refine Leg.QW.want (by kernel_rfl) (fun K hK => ?_)
                go_big_quiet_op
                refine hK _ ?_
                clear hK K
                refine Leg.QW.want (by kernel_rfl) (fun K hK => ?_)
                go_big_quiet_op
                refine hK _ ?_
                clear hK K
                refine Leg.QW.want (by kernel_rfl) (fun K hK => ?_)
                go_big_quiet_op
                refine hK _ ?_
                clear hK K
                refine Leg.QW.want (by kernel_rfl) (fun K hK => ?_)
                go_big_quiet_op
                refine hK _ ?_
                clear hK K
                refine Leg.QW.want (by kernel_rfl) (fun K hK => ?_)
                go_big_quiet_op
                refine hK _ ?_
                clear hK K
                refine Leg.QW.want (by kernel_rfl) (fun K hK => ?_)
                go_big_quiet_op
                refine hK _ ?_
                clear hK K
                refine Leg.QW.want (by kernel_rfl) (fun K hK => ?_)
                go_big_quiet_op
                refine hK _ ?_
                clear hK K
                refine Leg.QW.want (by kernel_rfl) (fun K hK => ?_)
                go_big_quiet_op
                refine hK _ ?_
                clear hK K
                refine Leg.QW.want (by kernel_rfl) (fun K hK => ?_)
                go_big_quiet_op
                refine hK _ ?_
                clear hK K
                refine Leg.QW.want (by kernel_rfl) (fun K hK => ?_)
                go_big_quiet_op
                refine hK _ ?_
                clear hK K
                refine Leg.QW.want (by kernel_rfl) (fun K hK => ?_)
                go_big_quiet_op
                refine hK _ ?_
                clear hK K
                refine Leg.QW.want (by kernel_rfl) (fun K hK => ?_)
                go_big_quiet_op
                refine hK _ ?_
                clear hK K
                refine Leg.QW.want (by kernel_rfl) (fun K hK => ?_)
                go_big_quiet_op
                refine hK _ ?_
                clear hK K
                refine Leg.QW.want (by kernel_rfl) (fun K hK => ?_)
                go_big_quiet_op
                refine hK _ ?_
                clear hK K
                refine Leg.QW.want (by kernel_rfl) (fun K hK => ?_)
                go_big_quiet_op
                refine hK _ ?_
                clear hK K
                refine Leg.QW.want (by kernel_rfl) (fun K hK => ?_)
                go_big_quiet_op
                refine hK _ ?_
                clear hK K
                refine Leg.QW.want (by kernel_rfl) (fun K hK => ?_)
                go_big_quiet_op
                refine hK _ ?_
                clear hK K
                refine Leg.QW.want (by kernel_rfl) (fun K hK => ?_)
                go_big_quiet_op
                refine hK _ ?_
                clear hK K
                refine Leg.QW.want (by kernel_rfl) (fun K hK => ?_)
                go_big_quiet_op
                refine hK _ ?_
                clear hK K
                refine Leg.QW.want (by kernel_rfl) (fun K hK => ?_)
                go_big_quiet_op
                refine ⟨_, fun _ => cM _ _, hK _ ?_⟩
                clear hK K
                refine Leg.QW.want (by kernel_rfl) (fun K hK => ?_)
                go_big_quiet_op
                refine ⟨_, fun _ => cJ _ _, hK _ ?_⟩
                clear hK K
                refine Leg.QW.want (by kernel_rfl) (fun K hK => ?_)
                go_big_quiet_op
                refine hK _ ?_
                clear hK K
                refine Leg.QW.want (by kernel_rfl) (fun K hK => ?_)
                go_big_quiet_op
                refine hK _ ?_
                clear hK K
                refine Leg.QW.nil ?_
                clear gz0 gz1 gz2 gz3 gz4 gfa gfb cM cJ
                intro _ hw'
                obtain ⟨⟨dq, osq⟩, hw''⟩ := hw'
                subst hw''
                have hw9 := hw8.trans ((below_regrown w8 dq osq).mono (by have := hw8.size; simpa using this))
                clear hw8
                generalize grow (redrawn w8 dq) osq = w9 at hw9 ⊢
                go_wp2
                go_ret
                exact ⟨by rw [HF.out]; rfl, box_under hw9⟩
            · have HF : Hid (pb (Lawful x f) = false) := HNW'.out hi1
              clear HYES HNW' HNS'
              go_wp2_with fail
              have cL : ∀ dd os, Calls Try.prog 33 #[.agg #[.int .i64 x.1.1, .int .i64 x.1.2, .slice ao x.2.1.length cap, .int .i64 x.2.2.1, .int .i64 x.2.2.2], .int .i64 (k : Int)] (grow (redrawn wr dd) os) (fun e w'' => e = .returned (.int .i64 lo) ∧ ∃ p : Regrown, w'' = grow (redrawn wr p.d) p.os) := fun dd os => Calls.regrown_of (by have := sLow x ao cap k (grow (redrawn wr dd) os) (h.later ((box_under hB).trans ((below_regrown wr dd os).mono (by have := hB.size; simp at this; omega)))); rw [elo] at this; exact this)
              have cH : ∀ dd os, Calls Try.prog 34 #[.agg #[.int .i64 x.1.1, .int .i64 x.1.2, .slice ao x.2.1.length cap, .int .i64 x.2.2.1, .int .i64 x.2.2.2], .int .i64 (k : Int)] (grow (redrawn wr dd) os) (fun e w'' => e = .returned (.int .i64 hi) ∧ ∃ p : Regrown, w'' = grow (redrawn wr p.d) p.os) := fun dd os => Calls.regrown_of (by have := sHigh x ao cap k (grow (redrawn wr dd) os) (h.later ((box_under hB).trans ((below_regrown wr dd os).mono (by have := hB.size; simp at this; omega)))); rw [ehi] at this; exact this)
              have cI : ∀ dd os, Calls Try.prog 21 #[.int .i64 a, .int .i64 lo, .int .i64 hi] (grow (redrawn wr dd) os) (fun e w'' => e = .returned (.bool false) ∧ ∃ p : Regrown, w'' = grow (redrawn wr p.d) p.os) := fun dd os => Calls.regrown_of ((sin_b a lo hi (grow (redrawn wr dd) os) false (pb_no hi1)).mono (fun e w' hh => ⟨hh.1, by rw [← hh.2]; exact Below.refl _ _⟩))
              have z0 := box_at hB 0
              have z1 := box_at hB 1
              have z2 := box_at hB 2
              have z3 := box_at hB 3
              have z4 := box_at hB 4
              simp at z0 z1 z2 z3 z4
              have gz0 := cell_regrown z0
              have gz1 := cell_regrown z1
              have gz2 := cell_regrown z2
              have gz3 := cell_regrown z3
              have gz4 := cell_regrown z4
              have gfa := cell_regrown fa
              clear z0 z1 z2 z3 z4 fa
              have hcL := cL
              have hcH := cH
              clear hcL hcH
              refine Leg.wp_region_qw (by kernel_rfl) (by kernel_rfl) ?_
              refine Leg.QW.want (by kernel_rfl) (fun K hK => ?_)
              go_big_quiet_op
              refine hK _ ?_
              clear hK K
              refine Leg.QW.want (by kernel_rfl) (fun K hK => ?_)
              go_big_quiet_op
              refine hK _ ?_
              clear hK K
              refine Leg.QW.want (by kernel_rfl) (fun K hK => ?_)
              go_big_quiet_op
              refine hK _ ?_
              clear hK K
              refine Leg.QW.want (by kernel_rfl) (fun K hK => ?_)
              go_big_quiet_op
              refine hK _ ?_
              clear hK K
              refine Leg.QW.want (by kernel_rfl) (fun K hK => ?_)
              go_big_quiet_op
              refine hK _ ?_
              clear hK K
              refine Leg.QW.want (by kernel_rfl) (fun K hK => ?_)
              go_big_quiet_op
              refine hK _ ?_
              clear hK K
              refine Leg.QW.want (by kernel_rfl) (fun K hK => ?_)
              go_big_quiet_op
              refine ⟨_, fun _ => cL _ _, hK _ ?_⟩
              clear hK K
              refine Leg.QW.want (by kernel_rfl) (fun K hK => ?_)
              go_big_quiet_op
              refine hK _ ?_
              clear hK K
              refine Leg.QW.want (by kernel_rfl) (fun K hK => ?_)
              go_big_quiet_op
              refine hK _ ?_
              clear hK K
              refine Leg.QW.want (by kernel_rfl) (fun K hK => ?_)
              go_big_quiet_op
              refine ⟨_, fun _ => cH _ _, hK _ ?_⟩
              clear hK K
              refine Leg.QW.want (by kernel_rfl) (fun K hK => ?_)
              go_big_quiet_op
              refine ⟨_, fun _ => cI _ _, hK _ ?_⟩
              clear hK K
              refine Leg.QW.want (by kernel_rfl) (fun K hK => ?_)
              go_big_quiet_op
              refine hK _ ?_
              clear hK K
              refine Leg.QW.nil ?_
              clear cL cH cI gz0 gz1 gz2 gz3 gz4 gfa
              intro _ hw'
              obtain ⟨⟨dq, osq⟩, hw''⟩ := hw'
              subst hw''
              have hw8 := hB.trans ((below_regrown wr dq osq).mono (by have := hB.size; simpa using this))
              clear hB
              generalize grow (redrawn wr dq) osq = w8 at hw8 ⊢
              go_wp2
              go_ret
              exact ⟨by rw [HF.out]; rfl, box_under hw8⟩
          · have hk00 : k = 0 := by omega
            have hd0 : decide ((0 : Int) < (k : Int)) = false := by simp; omega
            have HYES : Hid (InR (f[k]'hlt) (lowAt x k) (highAt x k) → LawTo x f (k + 1)) := fun h1 => hpre.out.next hlt h1 (fun h0 => absurd h0 hk0)
            rw [elo, ehi] at HNW' HRK HYES
            generalize f[k]'hlt = a at *
            clear HALL HNW HNS HRG hpre hf hk00
            by_cases hi1 : InR a lo hi
            · have HF : Hid (LawTo x f (k + 1)) := HYES.out hi1
              clear HYES HNW'
              go_wp2_with fail
              have cL : ∀ dd os, Calls Try.prog 33 #[.agg #[.int .i64 x.1.1, .int .i64 x.1.2, .slice ao x.2.1.length cap, .int .i64 x.2.2.1, .int .i64 x.2.2.2], .int .i64 (k : Int)] (grow (redrawn wr dd) os) (fun e w'' => e = .returned (.int .i64 lo) ∧ ∃ p : Regrown, w'' = grow (redrawn wr p.d) p.os) := fun dd os => Calls.regrown_of (by have := sLow x ao cap k (grow (redrawn wr dd) os) (h.later ((box_under hB).trans ((below_regrown wr dd os).mono (by have := hB.size; simp at this; omega)))); rw [elo] at this; exact this)
              have cH : ∀ dd os, Calls Try.prog 34 #[.agg #[.int .i64 x.1.1, .int .i64 x.1.2, .slice ao x.2.1.length cap, .int .i64 x.2.2.1, .int .i64 x.2.2.2], .int .i64 (k : Int)] (grow (redrawn wr dd) os) (fun e w'' => e = .returned (.int .i64 hi) ∧ ∃ p : Regrown, w'' = grow (redrawn wr p.d) p.os) := fun dd os => Calls.regrown_of (by have := sHigh x ao cap k (grow (redrawn wr dd) os) (h.later ((box_under hB).trans ((below_regrown wr dd os).mono (by have := hB.size; simp at this; omega)))); rw [ehi] at this; exact this)
              have cI : ∀ dd os, Calls Try.prog 21 #[.int .i64 a, .int .i64 lo, .int .i64 hi] (grow (redrawn wr dd) os) (fun e w'' => e = .returned (.bool true) ∧ ∃ p : Regrown, w'' = grow (redrawn wr p.d) p.os) := fun dd os => Calls.regrown_of ((sin_b a lo hi (grow (redrawn wr dd) os) true (pb_yes hi1)).mono (fun e w' hh => ⟨hh.1, by rw [← hh.2]; exact Below.refl _ _⟩))
              have z0 := box_at hB 0
              have z1 := box_at hB 1
              have z2 := box_at hB 2
              have z3 := box_at hB 3
              have z4 := box_at hB 4
              simp at z0 z1 z2 z3 z4
              have gz0 := cell_regrown z0
              have gz1 := cell_regrown z1
              have gz2 := cell_regrown z2
              have gz3 := cell_regrown z3
              have gz4 := cell_regrown z4
              have gfa := cell_regrown fa
              clear z0 z1 z2 z3 z4 fa
              have hcL := cL
              have hcH := cH
              clear hcL hcH
              refine Leg.wp_region_qw (by kernel_rfl) (by kernel_rfl) ?_
              refine Leg.QW.want (by kernel_rfl) (fun K hK => ?_)
              go_big_quiet_op
              refine hK _ ?_
              clear hK K
              refine Leg.QW.want (by kernel_rfl) (fun K hK => ?_)
              go_big_quiet_op
              refine hK _ ?_
              clear hK K
              refine Leg.QW.want (by kernel_rfl) (fun K hK => ?_)
              go_big_quiet_op
              refine hK _ ?_
              clear hK K
              refine Leg.QW.want (by kernel_rfl) (fun K hK => ?_)
              go_big_quiet_op
              refine hK _ ?_
              clear hK K
              refine Leg.QW.want (by kernel_rfl) (fun K hK => ?_)
              go_big_quiet_op
              refine hK _ ?_
              clear hK K
              refine Leg.QW.want (by kernel_rfl) (fun K hK => ?_)
              go_big_quiet_op
              refine hK _ ?_
              clear hK K
              refine Leg.QW.want (by kernel_rfl) (fun K hK => ?_)
              go_big_quiet_op
              refine ⟨_, fun _ => cL _ _, hK _ ?_⟩
              clear hK K
              refine Leg.QW.want (by kernel_rfl) (fun K hK => ?_)
              go_big_quiet_op
              refine hK _ ?_
              clear hK K
              refine Leg.QW.want (by kernel_rfl) (fun K hK => ?_)
              go_big_quiet_op
              refine hK _ ?_
              clear hK K
              refine Leg.QW.want (by kernel_rfl) (fun K hK => ?_)
              go_big_quiet_op
              refine ⟨_, fun _ => cH _ _, hK _ ?_⟩
              clear hK K
              refine Leg.QW.want (by kernel_rfl) (fun K hK => ?_)
              go_big_quiet_op
              refine ⟨_, fun _ => cI _ _, hK _ ?_⟩
              clear hK K
              refine Leg.QW.want (by kernel_rfl) (fun K hK => ?_)
              go_big_quiet_op
              refine hK _ ?_
              clear hK K
              refine Leg.QW.nil ?_
              clear cL cH cI gz0 gz1 gz2 gz3 gz4 gfa
              intro _ hw'
              obtain ⟨⟨dq, osq⟩, hw''⟩ := hw'
              subst hw''
              have hw8 := hB.trans ((below_regrown wr dq osq).mono (by have := hB.size; simpa using this))
              clear hB
              generalize grow (redrawn wr dq) osq = w8 at hw8 ⊢
              go_wp2_with fail
              have z0 := box_at hw8 0
              have z1 := box_at hw8 1
              have z2 := box_at hw8 2
              have z3 := box_at hw8 3
              have z4 := box_at hw8 4
              simp at z0 z1 z2 z3 z4
              have fa := ((box_under hw8).cell (p := ⟨g, off + k, none⟩) hok).trans c0
              have gz0 := cell_regrown z0
              have gz1 := cell_regrown z1
              have gz2 := cell_regrown z2
              have gz3 := cell_regrown z3
              have gz4 := cell_regrown z4
              have gfa := cell_regrown fa
              clear z0 z1 z2 z3 z4 fa
              refine Leg.wp_region_qw (by kernel_rfl) (by kernel_rfl) ?_
              refine Leg.QW.want (by kernel_rfl) (fun K hK => ?_)
              go_big_quiet_op
              refine hK _ ?_
              clear hK K
              refine Leg.QW.want (by kernel_rfl) (fun K hK => ?_)
              go_big_quiet_op
              refine hK _ ?_
              clear hK K
              refine Leg.QW.want (by kernel_rfl) (fun K hK => ?_)
              go_big_quiet_op
              refine hK _ ?_
              clear hK K
              refine Leg.QW.skip (by kernel_rfl) ?_
              refine Leg.QW.skip (by kernel_rfl) ?_
              refine Leg.QW.skip (by kernel_rfl) ?_
              refine Leg.QW.skip (by kernel_rfl) ?_
              refine Leg.QW.skip (by kernel_rfl) ?_
              refine Leg.QW.skip (by kernel_rfl) ?_
              refine Leg.QW.skip (by kernel_rfl) ?_
              refine Leg.QW.skip (by kernel_rfl) ?_
              refine Leg.QW.skip (by kernel_rfl) ?_
              refine Leg.QW.skip (by kernel_rfl) ?_
              refine Leg.QW.skip (by kernel_rfl) ?_
              refine Leg.QW.skip (by kernel_rfl) ?_
              refine Leg.QW.skip (by kernel_rfl) ?_
              refine Leg.QW.skip (by kernel_rfl) ?_
              refine Leg.QW.skip (by kernel_rfl) ?_
              refine Leg.QW.skip (by kernel_rfl) ?_
              refine Leg.QW.skip (by kernel_rfl) ?_
              refine Leg.QW.skip (by kernel_rfl) ?_
              refine Leg.QW.skip (by kernel_rfl) ?_
              refine Leg.QW.want (by kernel_rfl) (fun K hK => ?_)
              go_simp
              refine hK _ ?_
              clear hK K
              refine Leg.QW.nil ?_
              clear gz0 gz1 gz2 gz3 gz4 gfa
              intro _ hw'
              obtain ⟨⟨dq, osq⟩, hw''⟩ := hw'
              subst hw''
              have hw9 := hw8.trans ((below_regrown w8 dq osq).mono (by have := hw8.size; simpa using this))
              clear hw8
              generalize grow (redrawn w8 dq) osq = w9 at hw9 ⊢
              go_wp2
              go_roundw
              case rel => exact ⟨k + 1, by omega, by go_num, HF, hw9⟩
              case measure => simp [intOf]; omega
            · have HF : Hid (pb (Lawful x f) = false) := HNW'.out hi1
              clear HYES HNW'
              go_wp2_with fail
              have cL : ∀ dd os, Calls Try.prog 33 #[.agg #[.int .i64 x.1.1, .int .i64 x.1.2, .slice ao x.2.1.length cap, .int .i64 x.2.2.1, .int .i64 x.2.2.2], .int .i64 (k : Int)] (grow (redrawn wr dd) os) (fun e w'' => e = .returned (.int .i64 lo) ∧ ∃ p : Regrown, w'' = grow (redrawn wr p.d) p.os) := fun dd os => Calls.regrown_of (by have := sLow x ao cap k (grow (redrawn wr dd) os) (h.later ((box_under hB).trans ((below_regrown wr dd os).mono (by have := hB.size; simp at this; omega)))); rw [elo] at this; exact this)
              have cH : ∀ dd os, Calls Try.prog 34 #[.agg #[.int .i64 x.1.1, .int .i64 x.1.2, .slice ao x.2.1.length cap, .int .i64 x.2.2.1, .int .i64 x.2.2.2], .int .i64 (k : Int)] (grow (redrawn wr dd) os) (fun e w'' => e = .returned (.int .i64 hi) ∧ ∃ p : Regrown, w'' = grow (redrawn wr p.d) p.os) := fun dd os => Calls.regrown_of (by have := sHigh x ao cap k (grow (redrawn wr dd) os) (h.later ((box_under hB).trans ((below_regrown wr dd os).mono (by have := hB.size; simp at this; omega)))); rw [ehi] at this; exact this)
              have cI : ∀ dd os, Calls Try.prog 21 #[.int .i64 a, .int .i64 lo, .int .i64 hi] (grow (redrawn wr dd) os) (fun e w'' => e = .returned (.bool false) ∧ ∃ p : Regrown, w'' = grow (redrawn wr p.d) p.os) := fun dd os => Calls.regrown_of ((sin_b a lo hi (grow (redrawn wr dd) os) false (pb_no hi1)).mono (fun e w' hh => ⟨hh.1, by rw [← hh.2]; exact Below.refl _ _⟩))
              have z0 := box_at hB 0
              have z1 := box_at hB 1
              have z2 := box_at hB 2
              have z3 := box_at hB 3
              have z4 := box_at hB 4
              simp at z0 z1 z2 z3 z4
              have gz0 := cell_regrown z0
              have gz1 := cell_regrown z1
              have gz2 := cell_regrown z2
              have gz3 := cell_regrown z3
              have gz4 := cell_regrown z4
              have gfa := cell_regrown fa
              clear z0 z1 z2 z3 z4 fa
              have hcL := cL
              have hcH := cH
              clear hcL hcH
              refine Leg.wp_region_qw (by kernel_rfl) (by kernel_rfl) ?_
              refine Leg.QW.want (by kernel_rfl) (fun K hK => ?_)
              go_big_quiet_op
              refine hK _ ?_
              clear hK K
              refine Leg.QW.want (by kernel_rfl) (fun K hK => ?_)
              go_big_quiet_op
              refine hK _ ?_
              clear hK K
              refine Leg.QW.want (by kernel_rfl) (fun K hK => ?_)
              go_big_quiet_op
              refine hK _ ?_
              clear hK K
              refine Leg.QW.want (by kernel_rfl) (fun K hK => ?_)
              go_big_quiet_op
              refine hK _ ?_
              clear hK K
              refine Leg.QW.want (by kernel_rfl) (fun K hK => ?_)
              go_big_quiet_op
              refine hK _ ?_
              clear hK K
              refine Leg.QW.want (by kernel_rfl) (fun K hK => ?_)
              go_big_quiet_op
              refine hK _ ?_
              clear hK K
              refine Leg.QW.want (by kernel_rfl) (fun K hK => ?_)
              go_big_quiet_op
              refine ⟨_, fun _ => cL _ _, hK _ ?_⟩
              clear hK K
              refine Leg.QW.want (by kernel_rfl) (fun K hK => ?_)
              go_big_quiet_op
              refine hK _ ?_
              clear hK K
              refine Leg.QW.want (by kernel_rfl) (fun K hK => ?_)
              go_big_quiet_op
              refine hK _ ?_
              clear hK K
              refine Leg.QW.want (by kernel_rfl) (fun K hK => ?_)
              go_big_quiet_op
              refine ⟨_, fun _ => cH _ _, hK _ ?_⟩
              clear hK K
              refine Leg.QW.want (by kernel_rfl) (fun K hK => ?_)
              go_big_quiet_op
              refine ⟨_, fun _ => cI _ _, hK _ ?_⟩
              clear hK K
              refine Leg.QW.want (by kernel_rfl) (fun K hK => ?_)
              go_big_quiet_op
              refine hK _ ?_
              clear hK K
              refine Leg.QW.nil ?_
              clear cL cH cI gz0 gz1 gz2 gz3 gz4 gfa
              intro _ hw'
              obtain ⟨⟨dq, osq⟩, hw''⟩ := hw'
              subst hw''
              have hw8 := hB.trans ((below_regrown wr dq osq).mono (by have := hB.size; simpa using this))
              clear hB
              generalize grow (redrawn wr dq) osq = w8 at hw8 ⊢
              go_wp2
              go_ret
              exact ⟨by rw [HF.out]; rfl, box_under hw8⟩
        · have hke : k = f.length := by omega
          subst hke
          have HF : Hid (pb (Lawful x f) = true) := HALL.out hpre.out
          have hbq := hB
          clear hpre h hf HALL HNW HNS HRG hB
          go_wp2
          go_ret
          exact ⟨by rw [HF.out]; rfl, box_under hbq⟩
    · have HF : Hid (pb (Lawful x f) = false) := pb_no fun h2 => hl h2.2.1
      have hfI : ¬ (f.length : Int) = (x.2.1.length : Int) + 1 := by omega
      have hfb : ((f.length : Int) != (x.2.1.length : Int) + 1) = true := by simp; omega
      rw [pb_yes hp] at HK
      have HKA := HK _ hA
      clear hp HK hA h hf
      go_enter Try.func15, Try.ntmps15
      go_wp2_with fail
      refine HKA.mono ?_
      rintro e w1 ⟨rfl, hb1⟩
      clear HKA
      have hB1 : Below (w.heap.size + 1) (w.alloc (.cells #[.int .i64 x.1.1, .int .i64 x.1.2, .slice ao x.2.1.length cap, .int .i64 x.2.2.1, .int .i64 x.2.2.2] 35)) w1 := hb1.mono (by simp)
      have z2 := box_at hB1 2
      simp at z2
      have hzz : w.heap.size < w1.heap.size := by have := hb1.size; simp at this; omega
      clear hb1
      go_wp2
      go_ret
      exact ⟨by rw [HF.out]; first | rfl | (simp; done) | (simp; omega), box_under hB1⟩
  · have HF : Hid (pb (Lawful x f) = false) := pb_no fun h2 => hp h2.1
    rw [pb_no hp] at HK
    have HKA := HK _ hA
    clear hp HK hA h hf
    go_enter Try.func15, Try.ntmps15
    go_wp2_with fail
    refine HKA.mono ?_
    rintro e w1 ⟨rfl, hb1⟩
    clear HKA
    have hB1 : Below (w.heap.size + 1) (w.alloc (.cells #[.int .i64 x.1.1, .int .i64 x.1.2, .slice ao x.2.1.length cap, .int .i64 x.2.2.1, .int .i64 x.2.2.2] 35)) w1 := hb1.mono (by simp)
    clear hb1
    go_wp2
    go_ret
    exact ⟨by rw [HF.out]; rfl, box_under hB1⟩

end Fly
end Go.Proofs.Ytfjeiegoblaadaa
