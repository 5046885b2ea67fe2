/- DERIVED. (impl.FlyPath).inWindows, inStays, impl.FlyLawful: their walks (written by wip/tools/mk_fli2.py). -/
import Derived.Test.YtfjeiegoblaadaaFlI1
import Derived.Test.YtfjeiegoblaadaaWq0
namespace Go.Proofs.Ytfjeiegoblaadaa
namespace Fly
open Go.RowKit Go.Sort
set_option linter.unusedSimpArgs false
set_option linter.unusedVariables false

theorem methWS (a b c d e f g : Value) (w : World) : (method (194 + 1) 52 (.agg #[a, b, c, d, e, f, g]) "loop.example/lapwing/impl.window").run Try.prog w = .ok (65, .agg #[a, b, c, d, e, f, g]) w := by kernel_rfl
theorem methWE (a b c d e : Value) (w : World) : (method (194 + 1) 77 (.agg #[a, b, c, d, e]) "loop.example/lapwing/impl.window").run Try.prog w = .ok (66, .agg #[a, b, c, d, e]) w := by kernel_rfl

def WinTo (x : DFlyPath) (f : List Int) (k : Nat) : Prop := ∀ i (h : i < f.length), i < k → InR f[i] (lowAt x i) (highAt x i)
theorem WinTo.next {x : DFlyPath} {f : List Int} {k : Nat} (h : WinTo x f k) (hk : k < f.length) (hw : InR f[k] (lowAt x k) (highAt x k)) : WinTo x f (k + 1) := fun i hi hik => by
  by_cases e : i = k
  · subst e; exact hw
  · exact h i hi (by omega)
def StayTo (x : DFlyPath) (f : List Int) (k : Nat) : Prop := ∀ i (h : i + 1 < f.length), i < k → InR (f[i + 1] - f[i]) x.1.1 (mostAt x i)
theorem StayTo.next {x : DFlyPath} {f : List Int} {k : Nat} (h : StayTo x f k) (hk : k + 1 < f.length) (hw : InR (f[k + 1] - f[k]) x.1.1 (mostAt x k)) : StayTo x f (k + 1) := fun i hi hik => by
  by_cases e : i = k
  · subst e; exact hw
  · exact h i hi (by omega)

set_option maxRecDepth 100000 in
set_option maxHeartbeats 8000000 in
theorem iWindows (x : DFlyPath) (f : List Int) (ao : Option Addr) (cap : Nat) (bo : Option Addr) (bc : Nat) (w : World) (h : PathAt w x ao cap) (hf : SliceAt vInt (old w) w bo bc f) (hn : x.2.1.length ≤ 40) (hl : f.length = x.2.1.length + 1) :
    Calls Try.prog 36 #[.agg #[.int .i64 x.1.1, .int .i64 x.1.2, .slice ao x.2.1.length cap, .int .i64 x.2.2.1, .int .i64 x.2.2.2], .slice bo f.length bc] w fun e w' => e = .returned (.bool (pb (Windows x f))) ∧ Below w.heap.size w w' := by
  have hfl := hf.1
  have hfm : bc ≤ 9223372036854775807 := hf.2.1
  have HB0 : Below w.heap.size w (w.alloc (.cells #[.int .i64 x.1.1, .int .i64 x.1.2, .slice ao x.2.1.length cap, .int .i64 x.2.2.1, .int .i64 x.2.2.2] 35)) := (Below.refl _ _).alloc (Nat.le_refl _) _
  have HBD := iBounds x ao cap (w.alloc (.cells #[.int .i64 x.1.1, .int .i64 x.1.2, .slice ao x.2.1.length cap, .int .i64 x.2.2.1, .int .i64 x.2.2.2] 35)) (h.later HB0) hn
  have HNO : Hid (∀ i (hi : i < f.length), ¬ InR f[i] (lowAt x i) (highAt x i) → pb (Windows x f) = false) := fun i hi h1 => pb_no fun h2 => h1 (h2 i hi)
  have HALL : Hid (WinTo x f f.length → pb (Windows x f) = true) := fun h1 => pb_yes fun i hi => h1 i hi hi
  have HL : Hid (f.length = x.2.1.length + 1) := hl
  clear hl
  go_enter Try.func36, Try.ntmps36
  go_wp2_with fail
  refine HBD.mono ?_
  rintro e w1 ⟨g2, c2, rfl, hO, hb1⟩
  clear HBD
  have hB1 : Below w.heap.size w w1 := HB0.trans (hb1.mono HB0.size)
  have HC : Hid (∀ k, w1.cell? ⟨g2, k, none⟩ = if k < x.2.1.length + 1 then (bds x ao cap)[k]? else w1.cell? ⟨g2, k, none⟩) := fun k => by
    split
    · have := hO.cellAt k (by omega); exact this
    · rfl
  have hg2 : g2 < w1.heap.size := (hO.lt g2 rfl).2
  have hc2 : x.2.1.length + 1 ≤ c2 ∧ c2 ≤ 9223372036854775807 := by
    rcases hO.2 with ⟨h1, _⟩ | ⟨_, c3, _, h1, _, _, h2, h3, _⟩
    · simp at h1
    · have := h3; unfold maxLen at this; cases h1; omega
  clear hO hb1 HB0
  have hmS := methWS
  have hmE := methWE
  go_wp2
  go_loopw [10] (fun i wr => ∃ k : Nat, k ≤ x.2.1.length + 1 ∧ i = .int .i64 k ∧ Hid (WinTo x f k) ∧ Below w1.heap.size w1 wr) (fun i _ => x.2.1.length + 1 - (intOf i).toNat)
  case atStart => exact ⟨0, Nat.zero_le _, rfl, fun j _ hj => by omega, Below.refl _ _⟩
  case round =>
    obtain ⟨k, hk, rfl, hpre, hB⟩ := hrel
    have hsz := hB.size
    have HFIN : Hid (∀ W, Below w1.heap.size w1 W → Below w.heap.size w W) := fun W h => hB1.trans (h.mono hB1.size)
    by_cases hlt : k < x.2.1.length + 1
    · have hltf : k < f.length := by have := HL.out; omega
      have hkI : (k : Int) < (x.2.1.length : Int) + 1 := by omega
      have hkI2 : (k : Int) < (f.length : Int) := by omega
      have hkI3 : (k : Int) < ((x.2.1.length + 1 : Nat) : Int) := by omega
      obtain ⟨g, off, rfl, hok, c0, _⟩ := elem_Int hf hltf
      have fa := ((HFIN.out wr hB).cell (p := ⟨g, off + k, none⟩) hok).trans c0
      have HNO' : Hid (¬ InR (f[k]'hltf) (lowAt x k) (highAt x k) → pb (Windows x f) = false) := HNO.out k hltf
      have HYES : Hid (InR (f[k]'hltf) (lowAt x k) (highAt x k) → WinTo x f (k + 1)) := fun h1 => hpre.out.next hltf h1
      generalize f[k]'hltf = a at *
      have y0 := (hB.cell (p := ⟨g2, k, none⟩) hg2).trans (HC.out k)
      rw [if_pos hlt] at y0
      clear HNO HALL hpre c0 hf
      by_cases hin : k < x.2.1.length
      · rw [bds_in x ao cap k hin] at y0
        rw [lowAt_in hin, highAt_in hin] at HNO' HYES
        have HW := fun W => iWinS (x.2.1[k]'hin) W
        generalize x.2.1[k]'hin = s at *
        obtain ⟨px, py, lo, hi, fr, up, hd⟩ := s
        simp only [bdS, vSt, cSt] at y0 HW
        simp only at HNO' HYES
        clear h HC
        by_cases hi1 : InR a fr up
        · have HF : Hid (WinTo x f (k + 1)) := HYES.out hi1
          clear HNO' HYES
          go_wp2_with fail
          have cW : ∀ dd os, Calls Try.prog 65 #[.agg #[.int .i64 px, .int .i64 py, .int .i64 lo, .int .i64 hi, .int .i64 fr, .int .i64 up, .bool hd]] (grow (redrawn wr dd) os) (fun e w'' => e = .returned (.agg #[.int .i64 fr, .int .i64 up]) ∧ ∃ p : Regrown, w'' = grow (redrawn wr p.d) p.os) := fun dd os => Calls.regrown_of (HW _)
          have cH : ∀ dd os, Calls Try.prog 46 #[.agg #[.int .i64 fr, .int .i64 up], .int .i64 a] (grow (redrawn wr dd) os) (fun e w'' => e = .returned (.bool true) ∧ ∃ p : Regrown, w'' = grow (redrawn wr p.d) p.os) := fun dd os => Calls.regrown_of (by have := iHas fr up a (grow (redrawn wr dd) os); rw [pb_yes hi1] at this; exact this)
          have gfa := cell_regrown fa
          clear fa y0
          clear hi1 HW
          refine Leg.wp_region_qw (by kernel_rfl) (by kernel_rfl) ?_
          refine Leg.QW.want (by kernel_rfl) (fun K hK => ?_)
          go_big_quiet_op
          refine hK _ ?_
          clear hK K
          refine Leg.QW.want (by kernel_rfl) (fun K hK => ?_)
          go_big_quiet_op
          refine ⟨_, fun _ => cW _ _, hK _ ?_⟩
          clear hK K
          refine Leg.QW.want (by kernel_rfl) (fun K hK => ?_)
          go_big_quiet_op
          refine hK _ ?_
          clear hK K
          refine Leg.QW.want (by kernel_rfl) (fun K hK => ?_)
          go_big_quiet_op
          refine hK _ ?_
          clear hK K
          refine Leg.QW.want (by kernel_rfl) (fun K hK => ?_)
          go_big_quiet_op
          refine hK _ ?_
          clear hK K
          refine Leg.QW.want (by kernel_rfl) (fun K hK => ?_)
          go_big_quiet_op
          refine hK _ ?_
          clear hK K
          refine Leg.QW.want (by kernel_rfl) (fun K hK => ?_)
          go_big_quiet_op
          refine ⟨_, fun _ => cH _ _, hK _ ?_⟩
          clear hK K
          refine Leg.QW.want (by kernel_rfl) (fun K hK => ?_)
          go_big_quiet_op
          refine hK _ ?_
          clear hK K
          refine Leg.QW.nil ?_
          clear cW cH gfa
          intro _ hw'
          obtain ⟨⟨dq, osq⟩, hw''⟩ := hw'
          subst hw''
          have hw9 := hB.trans ((below_regrown wr dq osq).mono (by omega))
          clear hB
          generalize grow (redrawn wr dq) osq = w9 at hw9 ⊢
          go_wp2
          go_roundw
          case rel => exact ⟨k + 1, by omega, by go_num, HF, hw9⟩
          case measure => simp [intOf]; omega
        · have HF : Hid (pb (Windows x f) = false) := HNO'.out hi1
          clear HNO' HYES
          go_wp2_with fail
          have cW : ∀ dd os, Calls Try.prog 65 #[.agg #[.int .i64 px, .int .i64 py, .int .i64 lo, .int .i64 hi, .int .i64 fr, .int .i64 up, .bool hd]] (grow (redrawn wr dd) os) (fun e w'' => e = .returned (.agg #[.int .i64 fr, .int .i64 up]) ∧ ∃ p : Regrown, w'' = grow (redrawn wr p.d) p.os) := fun dd os => Calls.regrown_of (HW _)
          have cH : ∀ dd os, Calls Try.prog 46 #[.agg #[.int .i64 fr, .int .i64 up], .int .i64 a] (grow (redrawn wr dd) os) (fun e w'' => e = .returned (.bool false) ∧ ∃ p : Regrown, w'' = grow (redrawn wr p.d) p.os) := fun dd os => Calls.regrown_of (by have := iHas fr up a (grow (redrawn wr dd) os); rw [pb_no hi1] at this; exact this)
          have gfa := cell_regrown fa
          clear fa y0
          clear hi1 HW
          refine Leg.wp_region_qw (by kernel_rfl) (by kernel_rfl) ?_
          refine Leg.QW.want (by kernel_rfl) (fun K hK => ?_)
          go_big_quiet_op
          refine hK _ ?_
          clear hK K
          refine Leg.QW.want (by kernel_rfl) (fun K hK => ?_)
          go_big_quiet_op
          refine ⟨_, fun _ => cW _ _, hK _ ?_⟩
          clear hK K
          refine Leg.QW.want (by kernel_rfl) (fun K hK => ?_)
          go_big_quiet_op
          refine hK _ ?_
          clear hK K
          refine Leg.QW.want (by kernel_rfl) (fun K hK => ?_)
          go_big_quiet_op
          refine hK _ ?_
          clear hK K
          refine Leg.QW.want (by kernel_rfl) (fun K hK => ?_)
          go_big_quiet_op
          refine hK _ ?_
          clear hK K
          refine Leg.QW.want (by kernel_rfl) (fun K hK => ?_)
          go_big_quiet_op
          refine hK _ ?_
          clear hK K
          refine Leg.QW.want (by kernel_rfl) (fun K hK => ?_)
          go_big_quiet_op
          refine ⟨_, fun _ => cH _ _, hK _ ?_⟩
          clear hK K
          refine Leg.QW.want (by kernel_rfl) (fun K hK => ?_)
          go_big_quiet_op
          refine hK _ ?_
          clear hK K
          refine Leg.QW.nil ?_
          clear cW cH gfa
          intro _ hw'
          obtain ⟨⟨dq, osq⟩, hw''⟩ := hw'
          subst hw''
          have hw9 := hB.trans ((below_regrown wr dq osq).mono (by omega))
          clear hB
          generalize grow (redrawn wr dq) osq = w9 at hw9 ⊢
          go_wp2
          go_ret
          exact ⟨by rw [HF.out]; rfl, HFIN.out _ hw9⟩
      · have hke : k = x.2.1.length := by omega
        have hbe : (bds x ao cap)[k]? = some (bdE x ao cap) := by rw [hke]; exact bds_end x ao cap
        rw [hbe] at y0
        rw [lowAt_end hin, highAt_end hin] at HNO' HYES
        simp only [bdE, cPa] at y0
        clear h HC hke hbe
        by_cases hi1 : InR a x.2.2.1 x.2.2.2
        · have HF : Hid (WinTo x f (k + 1)) := HYES.out hi1
          clear HNO' HYES
          go_wp2_with fail
          have cW : ∀ dd os, Calls Try.prog 66 #[.agg #[.int .i64 x.1.1, .int .i64 x.1.2, .slice ao x.2.1.length cap, .int .i64 x.2.2.1, .int .i64 x.2.2.2]] (grow (redrawn wr dd) os) (fun e w'' => e = .returned (.agg #[.int .i64 x.2.2.1, .int .i64 x.2.2.2]) ∧ ∃ p : Regrown, w'' = grow (redrawn wr p.d) p.os) := fun dd os => Calls.regrown_of (iWinE _ _ _ _ _ _)
          have cH : ∀ dd os, Calls Try.prog 46 #[.agg #[.int .i64 x.2.2.1, .int .i64 x.2.2.2], .int .i64 a] (grow (redrawn wr dd) os) (fun e w'' => e = .returned (.bool true) ∧ ∃ p : Regrown, w'' = grow (redrawn wr p.d) p.os) := fun dd os => Calls.regrown_of (by have := iHas x.2.2.1 x.2.2.2 a (grow (redrawn wr dd) os); rw [pb_yes hi1] at this; exact this)
          have gfa := cell_regrown fa
          clear fa y0
          clear hi1
          refine Leg.wp_region_qw (by kernel_rfl) (by kernel_rfl) ?_
          refine Leg.QW.want (by kernel_rfl) (fun K hK => ?_)
          go_big_quiet_op
          refine hK _ ?_
          clear hK K
          refine Leg.QW.want (by kernel_rfl) (fun K hK => ?_)
          go_big_quiet_op
          refine ⟨_, fun _ => cW _ _, hK _ ?_⟩
          clear hK K
          refine Leg.QW.want (by kernel_rfl) (fun K hK => ?_)
          go_big_quiet_op
          refine hK _ ?_
          clear hK K
          refine Leg.QW.want (by kernel_rfl) (fun K hK => ?_)
          go_big_quiet_op
          refine hK _ ?_
          clear hK K
          refine Leg.QW.want (by kernel_rfl) (fun K hK => ?_)
          go_big_quiet_op
          refine hK _ ?_
          clear hK K
          refine Leg.QW.want (by kernel_rfl) (fun K hK => ?_)
          go_big_quiet_op
          refine hK _ ?_
          clear hK K
          refine Leg.QW.want (by kernel_rfl) (fun K hK => ?_)
          go_big_quiet_op
          refine ⟨_, fun _ => cH _ _, hK _ ?_⟩
          clear hK K
          refine Leg.QW.want (by kernel_rfl) (fun K hK => ?_)
          go_big_quiet_op
          refine hK _ ?_
          clear hK K
          refine Leg.QW.nil ?_
          clear cW cH gfa
          intro _ hw'
          obtain ⟨⟨dq, osq⟩, hw''⟩ := hw'
          subst hw''
          have hw9 := hB.trans ((below_regrown wr dq osq).mono (by omega))
          clear hB
          generalize grow (redrawn wr dq) osq = w9 at hw9 ⊢
          go_wp2
          go_roundw
          case rel => exact ⟨k + 1, by omega, by go_num, HF, hw9⟩
          case measure => simp [intOf]; omega
        · have HF : Hid (pb (Windows x f) = false) := HNO'.out hi1
          clear HNO' HYES
          go_wp2_with fail
          have cW : ∀ dd os, Calls Try.prog 66 #[.agg #[.int .i64 x.1.1, .int .i64 x.1.2, .slice ao x.2.1.length cap, .int .i64 x.2.2.1, .int .i64 x.2.2.2]] (grow (redrawn wr dd) os) (fun e w'' => e = .returned (.agg #[.int .i64 x.2.2.1, .int .i64 x.2.2.2]) ∧ ∃ p : Regrown, w'' = grow (redrawn wr p.d) p.os) := fun dd os => Calls.regrown_of (iWinE _ _ _ _ _ _)
          have cH : ∀ dd os, Calls Try.prog 46 #[.agg #[.int .i64 x.2.2.1, .int .i64 x.2.2.2], .int .i64 a] (grow (redrawn wr dd) os) (fun e w'' => e = .returned (.bool false) ∧ ∃ p : Regrown, w'' = grow (redrawn wr p.d) p.os) := fun dd os => Calls.regrown_of (by have := iHas x.2.2.1 x.2.2.2 a (grow (redrawn wr dd) os); rw [pb_no hi1] at this; exact this)
          have gfa := cell_regrown fa
          clear fa y0
          clear hi1
          refine Leg.wp_region_qw (by kernel_rfl) (by kernel_rfl) ?_
          refine Leg.QW.want (by kernel_rfl) (fun K hK => ?_)
          go_big_quiet_op
          refine hK _ ?_
          clear hK K
          refine Leg.QW.want (by kernel_rfl) (fun K hK => ?_)
          go_big_quiet_op
          refine ⟨_, fun _ => cW _ _, hK _ ?_⟩
          clear hK K
          refine Leg.QW.want (by kernel_rfl) (fun K hK => ?_)
          go_big_quiet_op
          refine hK _ ?_
          clear hK K
          refine Leg.QW.want (by kernel_rfl) (fun K hK => ?_)
          go_big_quiet_op
          refine hK _ ?_
          clear hK K
          refine Leg.QW.want (by kernel_rfl) (fun K hK => ?_)
          go_big_quiet_op
          refine hK _ ?_
          clear hK K
          refine Leg.QW.want (by kernel_rfl) (fun K hK => ?_)
          go_big_quiet_op
          refine hK _ ?_
          clear hK K
          refine Leg.QW.want (by kernel_rfl) (fun K hK => ?_)
          go_big_quiet_op
          refine ⟨_, fun _ => cH _ _, hK _ ?_⟩
          clear hK K
          refine Leg.QW.want (by kernel_rfl) (fun K hK => ?_)
          go_big_quiet_op
          refine hK _ ?_
          clear hK K
          refine Leg.QW.nil ?_
          clear cW cH gfa
          intro _ hw'
          obtain ⟨⟨dq, osq⟩, hw''⟩ := hw'
          subst hw''
          have hw9 := hB.trans ((below_regrown wr dq osq).mono (by omega))
          clear hB
          generalize grow (redrawn wr dq) osq = w9 at hw9 ⊢
          go_wp2
          go_ret
          exact ⟨by rw [HF.out]; rfl, HFIN.out _ hw9⟩
    · have hke : k = f.length := by have := HL.out; omega
      have hkI3 : ¬ (k : Int) < ((x.2.1.length + 1 : Nat) : Int) := by omega
      have hkI : ¬ (k : Int) < (x.2.1.length : Int) + 1 := by omega
      have HF : Hid (pb (Windows x f) = true) := HALL.out (by rw [← hke]; exact hpre.out)
      have hbq := HFIN.out wr hB
      clear hpre h hf HALL HNO HC hB HFIN
      go_wp2
      go_ret
      exact ⟨by rw [HF.out]; rfl, hbq⟩

set_option maxRecDepth 100000 in
set_option maxHeartbeats 8000000 in
theorem iStays (x : DFlyPath) (f : List Int) (ao : Option Addr) (cap : Nat) (bo : Option Addr) (bc : Nat) (w : World) (h : PathAt w x ao cap) (hf : SliceAt vInt (old w) w bo bc f) (hn : x.2.1.length ≤ 40) (hl : f.length = x.2.1.length + 1) (hr : ∀ i (hi : i < f.length), 0 ≤ f[i] ∧ f[i] ≤ 10000) :
    Calls Try.prog 37 #[.agg #[.int .i64 x.1.1, .int .i64 x.1.2, .slice ao x.2.1.length cap, .int .i64 x.2.2.1, .int .i64 x.2.2.2], .slice bo f.length bc] w fun e w' => e = .returned (.bool (pb (Stays x f))) ∧ Below w.heap.size w w' := by
  have hfl := hf.1
  have hfm : bc ≤ 9223372036854775807 := hf.2.1
  have hB0 : Below (w.heap.size + 1) (w.alloc (.cells #[.int .i64 x.1.1, .int .i64 x.1.2, .slice ao x.2.1.length cap, .int .i64 x.2.2.1, .int .i64 x.2.2.2] 35)) (w.alloc (.cells #[.int .i64 x.1.1, .int .i64 x.1.2, .slice ao x.2.1.length cap, .int .i64 x.2.2.1, .int .i64 x.2.2.2] 35)) := Below.refl _ _
  have HNO : Hid (∀ i (hi : i + 1 < f.length), ¬ InR (f[i + 1] - f[i]) x.1.1 (mostAt x i) → pb (Stays x f) = false) := fun i hi h1 => pb_no fun h2 => h1 (h2 i hi)
  have HALL : Hid (StayTo x f x.2.1.length → pb (Stays x f) = true) := fun h1 => pb_yes fun i hi => h1 i hi (by omega)
  have HRR : Hid (∀ i (hi : i < f.length), 0 ≤ f[i] ∧ f[i] ≤ 10000) := hr
  clear hr
  have HL : Hid (f.length = x.2.1.length + 1) := hl
  clear hl
  go_enter Try.func37, Try.ntmps37
  go_wp2
  go_loopw [10] (fun i wr => ∃ k : Nat, k ≤ x.2.1.length ∧ i = .int .i64 k ∧ Hid (StayTo x f k) ∧ Below (w.heap.size + 1) (w.alloc (.cells #[.int .i64 x.1.1, .int .i64 x.1.2, .slice ao x.2.1.length cap, .int .i64 x.2.2.1, .int .i64 x.2.2.2] 35)) wr) (fun i _ => x.2.1.length - (intOf i).toNat)
  case atStart => exact ⟨0, Nat.zero_le _, rfl, fun j _ hj => by omega, hB0⟩
  clear hB0
  case round =>
    obtain ⟨k, hk, rfl, hpre, hB⟩ := hrel
    have hsz : w.heap.size + 1 ≤ wr.heap.size := by have := hB.size; simpa using this
    by_cases hlt : k < x.2.1.length
    · have hk0 : k < f.length := by have := HL.out; omega
      have hk1 : k + 1 < f.length := by have := HL.out; omega
      have hkI : (k : Int) < (x.2.1.length : Int) := by omega
      have hkI2 : (k : Int) < (f.length : Int) := by omega
      have hkI3 : (k : Int) + 1 < (f.length : Int) := by omega
      have hkN : ((k : Int) + 1).toNat = k + 1 := by omega
      have hkW : IntKind.i64.wrap ((k : Int) + 1) = (k : Int) + 1 := by rw [IntKind.wrap_i64] <;> omega
      have hknn : ¬ ((k : Int) + 1 < 0) := by omega
      obtain ⟨g, off, rfl, hok, c0, c1, c2, c3, c4, c5, c6, _⟩ := elem_FlyStep h hlt
      have hU := box_under hB
      have f0 := (hU.cell (p := ⟨g, off + k * 7, none⟩) hok).trans c0
      have f1 := (hU.cell (p := ⟨g, off + k * 7 + 1, none⟩) hok).trans c1
      have f2 := (hU.cell (p := ⟨g, off + k * 7 + 2, none⟩) hok).trans c2
      have f3 := (hU.cell (p := ⟨g, off + k * 7 + 3, none⟩) hok).trans c3
      have f4 := (hU.cell (p := ⟨g, off + k * 7 + 4, none⟩) hok).trans c4
      have f5 := (hU.cell (p := ⟨g, off + k * 7 + 5, none⟩) hok).trans c5
      have f6 := (hU.cell (p := ⟨g, off + k * 7 + 6, none⟩) hok).trans c6
      clear c0 c1 c2 c3 c4 c5 c6
      obtain ⟨g', off', rfl, hok', c0, _⟩ := elem_Int hf hk0
      obtain ⟨g'', off'', hbo, _, c1, _⟩ := elem_Int hf hk1
      cases hbo
      have fa := (hU.cell (p := ⟨g', off' + k, none⟩) hok').trans c0
      have fb := (hU.cell (p := ⟨g', off' + (k + 1), none⟩) hok').trans c1
      clear c0 c1 hU
      have z0 := box_at hB 0
      have z1 := box_at hB 1
      simp at z0 z1
      have hra := HRR.out k hk0
      have hrb := HRR.out (k + 1) hk1
      have HNO' : Hid (¬ InR (f[k + 1]'hk1 - f[k]'hk0) x.1.1 (mostAt x k) → pb (Stays x f) = false) := HNO.out k hk1
      have HYES : Hid (InR (f[k + 1]'hk1 - f[k]'hk0) x.1.1 (mostAt x k) → StayTo x f (k + 1)) := fun h1 => hpre.out.next hk1 h1
      rw [mostAt_in hlt] at HNO' HYES
      have HS := fun W => iStay (x.2.1[k]'hlt) x.1 W
      generalize f[k]'hk0 = a at *
      generalize f[k + 1]'hk1 = b at *
      generalize x.2.1[k]'hlt = s at *
      obtain ⟨px, py, lo, hi, fr, up, hd⟩ := s
      simp only [vSt, cSt, vKi] at HS
      simp only at f0 f1 f2 f3 f4 f5 f6 HNO' HYES HS
      obtain ⟨mo, emo⟩ : ∃ mo, (if hd = true then (10000 : Int) else x.1.2) = mo := ⟨_, rfl⟩
      rw [emo] at HNO' HYES
      simp only [emo] at HS
      have hba : IntKind.i64.wrap (b - a) = b - a := by rw [IntKind.wrap_i64] <;> omega
      have hbW1 : Below wr.heap.size wr (wr.alloc (.cells #[.int .i64 px, .int .i64 py, .int .i64 lo, .int .i64 hi, .int .i64 fr, .int .i64 up, .bool hd] 52)) := (Below.refl _ _).alloc (Nat.le_refl _) _
      clear HNO HALL HRR hpre h hf emo
      have hBn := hB.trans (hbW1.mono hsz)
      by_cases hi1 : InR (b - a) x.1.1 mo
      · have HF : Hid (StayTo x f (k + 1)) := HYES.out hi1
        clear HNO' HYES
        go_wp2_with fail
        have v0 : (wr.alloc (.cells #[.int .i64 px, .int .i64 py, .int .i64 lo, .int .i64 hi, .int .i64 fr, .int .i64 up, .bool hd] 52)).cell? ⟨wr.heap.size, 0, none⟩ = some (.int .i64 px) := box_in (Below.refl _ _) 0
        have v1 : (wr.alloc (.cells #[.int .i64 px, .int .i64 py, .int .i64 lo, .int .i64 hi, .int .i64 fr, .int .i64 up, .bool hd] 52)).cell? ⟨wr.heap.size, 1, none⟩ = some (.int .i64 py) := box_in (Below.refl _ _) 1
        have v2 : (wr.alloc (.cells #[.int .i64 px, .int .i64 py, .int .i64 lo, .int .i64 hi, .int .i64 fr, .int .i64 up, .bool hd] 52)).cell? ⟨wr.heap.size, 2, none⟩ = some (.int .i64 lo) := box_in (Below.refl _ _) 2
        have v3 : (wr.alloc (.cells #[.int .i64 px, .int .i64 py, .int .i64 lo, .int .i64 hi, .int .i64 fr, .int .i64 up, .bool hd] 52)).cell? ⟨wr.heap.size, 3, none⟩ = some (.int .i64 hi) := box_in (Below.refl _ _) 3
        have v4 : (wr.alloc (.cells #[.int .i64 px, .int .i64 py, .int .i64 lo, .int .i64 hi, .int .i64 fr, .int .i64 up, .bool hd] 52)).cell? ⟨wr.heap.size, 4, none⟩ = some (.int .i64 fr) := box_in (Below.refl _ _) 4
        have v5 : (wr.alloc (.cells #[.int .i64 px, .int .i64 py, .int .i64 lo, .int .i64 hi, .int .i64 fr, .int .i64 up, .bool hd] 52)).cell? ⟨wr.heap.size, 5, none⟩ = some (.int .i64 up) := box_in (Below.refl _ _) 5
        have v6 : (wr.alloc (.cells #[.int .i64 px, .int .i64 py, .int .i64 lo, .int .i64 hi, .int .i64 fr, .int .i64 up, .bool hd] 52)).cell? ⟨wr.heap.size, 6, none⟩ = some (.bool hd) := box_in (Below.refl _ _) 6
        have y0 := (hbW1.cell (p := ⟨w.heap.size, 0, none⟩) (by show w.heap.size < _; omega)).trans z0
        have y1 := (hbW1.cell (p := ⟨w.heap.size, 1, none⟩) (by show w.heap.size < _; omega)).trans z1
        have ra := (hbW1.cell (p := ⟨g', off' + k, none⟩) (by have : g' < w.heap.size := hok'; show g' < _; omega)).trans fa
        have rb := (hbW1.cell (p := ⟨g', off' + (k + 1), none⟩) (by have : g' < w.heap.size := hok'; show g' < _; omega)).trans fb
        have hsz1 : w.heap.size + 1 ≤ (wr.alloc (.cells #[.int .i64 px, .int .i64 py, .int .i64 lo, .int .i64 hi, .int .i64 fr, .int .i64 up, .bool hd] 52)).heap.size := by simp; omega
        clear z0 z1 fa fb f0 f1 f2 f3 f4 f5 f6 hbW1 hB
        generalize (wr.alloc (.cells #[.int .i64 px, .int .i64 py, .int .i64 lo, .int .i64 hi, .int .i64 fr, .int .i64 up, .bool hd] 52)) = wr1 at *
        have cS : ∀ dd os, Calls Try.prog 47 #[.agg #[.int .i64 px, .int .i64 py, .int .i64 lo, .int .i64 hi, .int .i64 fr, .int .i64 up, .bool hd], .agg #[.int .i64 x.1.1, .int .i64 x.1.2]] (grow (redrawn wr1 dd) os) (fun e w'' => e = .returned (.agg #[.int .i64 x.1.1, .int .i64 mo]) ∧ ∃ p : Regrown, w'' = grow (redrawn wr1 p.d) p.os) := fun dd os => Calls.regrown_of (HS _)
        have cH : ∀ dd os, Calls Try.prog 46 #[.agg #[.int .i64 x.1.1, .int .i64 mo], .int .i64 (b - a)] (grow (redrawn wr1 dd) os) (fun e w'' => e = .returned (.bool true) ∧ ∃ p : Regrown, w'' = grow (redrawn wr1 p.d) p.os) := fun dd os => Calls.regrown_of (by have := iHas x.1.1 mo (b - a) (grow (redrawn wr1 dd) os); rw [pb_yes hi1] at this; exact this)
        have gv0 := cell_regrown v0
        have gv1 := cell_regrown v1
        have gv2 := cell_regrown v2
        have gv3 := cell_regrown v3
        have gv4 := cell_regrown v4
        have gv5 := cell_regrown v5
        have gv6 := cell_regrown v6
        have gy0 := cell_regrown y0
        have gy1 := cell_regrown y1
        have gra := cell_regrown ra
        have grb := cell_regrown rb
        clear v0 v1 v2 v3 v4 v5 v6 y0 y1 ra rb hi1 HS
        refine Leg.wp_region_qw (by kernel_rfl) (by kernel_rfl) ?_
        refine Leg.QW.want (by kernel_rfl) (fun K hK => ?_)
        go_big_quiet_op
        refine hK _ ?_
        clear hK K
        refine Leg.QW.want (by kernel_rfl) (fun K hK => ?_)
        go_big_quiet_op
        refine hK _ ?_
        clear hK K
        refine Leg.QW.want (by kernel_rfl) (fun K hK => ?_)
        go_big_quiet_op
        refine hK _ ?_
        clear hK K
        refine Leg.QW.want (by kernel_rfl) (fun K hK => ?_)
        go_big_quiet_op
        refine ⟨_, fun _ => cS _ _, hK _ ?_⟩
        clear hK K
        refine Leg.QW.want (by kernel_rfl) (fun K hK => ?_)
        go_big_quiet_op
        refine hK _ ?_
        clear hK K
        refine Leg.QW.want (by kernel_rfl) (fun K hK => ?_)
        go_big_quiet_op
        refine hK _ ?_
        clear hK K
        refine Leg.QW.want (by kernel_rfl) (fun K hK => ?_)
        go_big_quiet_op
        refine hK _ ?_
        clear hK K
        refine Leg.QW.want (by kernel_rfl) (fun K hK => ?_)
        go_big_quiet_op
        refine hK _ ?_
        clear hK K
        refine Leg.QW.want (by kernel_rfl) (fun K hK => ?_)
        go_big_quiet_op
        refine hK _ ?_
        clear hK K
        refine Leg.QW.want (by kernel_rfl) (fun K hK => ?_)
        go_big_quiet_op
        refine hK _ ?_
        clear hK K
        refine Leg.QW.want (by kernel_rfl) (fun K hK => ?_)
        go_big_quiet_op
        refine hK _ ?_
        clear hK K
        refine Leg.QW.want (by kernel_rfl) (fun K hK => ?_)
        go_big_quiet_op
        refine hK _ ?_
        clear hK K
        refine Leg.QW.want (by kernel_rfl) (fun K hK => ?_)
        go_big_quiet_op
        refine hK _ ?_
        clear hK K
        refine Leg.QW.want (by kernel_rfl) (fun K hK => ?_)
        go_big_quiet_op
        refine hK _ ?_
        clear hK K
        refine Leg.QW.want (by kernel_rfl) (fun K hK => ?_)
        go_big_quiet_op
        refine ⟨_, fun _ => cH _ _, hK _ ?_⟩
        clear hK K
        refine Leg.QW.want (by kernel_rfl) (fun K hK => ?_)
        go_big_quiet_op
        refine hK _ ?_
        clear hK K
        refine Leg.QW.nil ?_
        clear cS cH gv0 gv1 gv2 gv3 gv4 gv5 gv6 gy0 gy1 gra grb
        intro _ hw'
        obtain ⟨⟨dq, osq⟩, hw''⟩ := hw'
        subst hw''
        have hw9 := hBn.trans ((below_regrown wr1 dq osq).mono (by omega))
        clear hBn
        generalize grow (redrawn wr1 dq) osq = w9 at hw9 ⊢
        go_wp2
        go_roundw
        case rel => exact ⟨k + 1, by omega, by go_num, HF, hw9⟩
        case measure => simp [intOf]; omega
      · have HF : Hid (pb (Stays x f) = false) := HNO'.out hi1
        clear HNO' HYES
        go_wp2_with fail
        have v0 : (wr.alloc (.cells #[.int .i64 px, .int .i64 py, .int .i64 lo, .int .i64 hi, .int .i64 fr, .int .i64 up, .bool hd] 52)).cell? ⟨wr.heap.size, 0, none⟩ = some (.int .i64 px) := box_in (Below.refl _ _) 0
        have v1 : (wr.alloc (.cells #[.int .i64 px, .int .i64 py, .int .i64 lo, .int .i64 hi, .int .i64 fr, .int .i64 up, .bool hd] 52)).cell? ⟨wr.heap.size, 1, none⟩ = some (.int .i64 py) := box_in (Below.refl _ _) 1
        have v2 : (wr.alloc (.cells #[.int .i64 px, .int .i64 py, .int .i64 lo, .int .i64 hi, .int .i64 fr, .int .i64 up, .bool hd] 52)).cell? ⟨wr.heap.size, 2, none⟩ = some (.int .i64 lo) := box_in (Below.refl _ _) 2
        have v3 : (wr.alloc (.cells #[.int .i64 px, .int .i64 py, .int .i64 lo, .int .i64 hi, .int .i64 fr, .int .i64 up, .bool hd] 52)).cell? ⟨wr.heap.size, 3, none⟩ = some (.int .i64 hi) := box_in (Below.refl _ _) 3
        have v4 : (wr.alloc (.cells #[.int .i64 px, .int .i64 py, .int .i64 lo, .int .i64 hi, .int .i64 fr, .int .i64 up, .bool hd] 52)).cell? ⟨wr.heap.size, 4, none⟩ = some (.int .i64 fr) := box_in (Below.refl _ _) 4
        have v5 : (wr.alloc (.cells #[.int .i64 px, .int .i64 py, .int .i64 lo, .int .i64 hi, .int .i64 fr, .int .i64 up, .bool hd] 52)).cell? ⟨wr.heap.size, 5, none⟩ = some (.int .i64 up) := box_in (Below.refl _ _) 5
        have v6 : (wr.alloc (.cells #[.int .i64 px, .int .i64 py, .int .i64 lo, .int .i64 hi, .int .i64 fr, .int .i64 up, .bool hd] 52)).cell? ⟨wr.heap.size, 6, none⟩ = some (.bool hd) := box_in (Below.refl _ _) 6
        have y0 := (hbW1.cell (p := ⟨w.heap.size, 0, none⟩) (by show w.heap.size < _; omega)).trans z0
        have y1 := (hbW1.cell (p := ⟨w.heap.size, 1, none⟩) (by show w.heap.size < _; omega)).trans z1
        have ra := (hbW1.cell (p := ⟨g', off' + k, none⟩) (by have : g' < w.heap.size := hok'; show g' < _; omega)).trans fa
        have rb := (hbW1.cell (p := ⟨g', off' + (k + 1), none⟩) (by have : g' < w.heap.size := hok'; show g' < _; omega)).trans fb
        have hsz1 : w.heap.size + 1 ≤ (wr.alloc (.cells #[.int .i64 px, .int .i64 py, .int .i64 lo, .int .i64 hi, .int .i64 fr, .int .i64 up, .bool hd] 52)).heap.size := by simp; omega
        clear z0 z1 fa fb f0 f1 f2 f3 f4 f5 f6 hbW1 hB
        generalize (wr.alloc (.cells #[.int .i64 px, .int .i64 py, .int .i64 lo, .int .i64 hi, .int .i64 fr, .int .i64 up, .bool hd] 52)) = wr1 at *
        have cS : ∀ dd os, Calls Try.prog 47 #[.agg #[.int .i64 px, .int .i64 py, .int .i64 lo, .int .i64 hi, .int .i64 fr, .int .i64 up, .bool hd], .agg #[.int .i64 x.1.1, .int .i64 x.1.2]] (grow (redrawn wr1 dd) os) (fun e w'' => e = .returned (.agg #[.int .i64 x.1.1, .int .i64 mo]) ∧ ∃ p : Regrown, w'' = grow (redrawn wr1 p.d) p.os) := fun dd os => Calls.regrown_of (HS _)
        have cH : ∀ dd os, Calls Try.prog 46 #[.agg #[.int .i64 x.1.1, .int .i64 mo], .int .i64 (b - a)] (grow (redrawn wr1 dd) os) (fun e w'' => e = .returned (.bool false) ∧ ∃ p : Regrown, w'' = grow (redrawn wr1 p.d) p.os) := fun dd os => Calls.regrown_of (by have := iHas x.1.1 mo (b - a) (grow (redrawn wr1 dd) os); rw [pb_no hi1] at this; exact this)
        have gv0 := cell_regrown v0
        have gv1 := cell_regrown v1
        have gv2 := cell_regrown v2
        have gv3 := cell_regrown v3
        have gv4 := cell_regrown v4
        have gv5 := cell_regrown v5
        have gv6 := cell_regrown v6
        have gy0 := cell_regrown y0
        have gy1 := cell_regrown y1
        have gra := cell_regrown ra
        have grb := cell_regrown rb
        clear v0 v1 v2 v3 v4 v5 v6 y0 y1 ra rb hi1 HS
        refine Leg.wp_region_qw (by kernel_rfl) (by kernel_rfl) ?_
        refine Leg.QW.want (by kernel_rfl) (fun K hK => ?_)
        go_big_quiet_op
        refine hK _ ?_
        clear hK K
        refine Leg.QW.want (by kernel_rfl) (fun K hK => ?_)
        go_big_quiet_op
        refine hK _ ?_
        clear hK K
        refine Leg.QW.want (by kernel_rfl) (fun K hK => ?_)
        go_big_quiet_op
        refine hK _ ?_
        clear hK K
        refine Leg.QW.want (by kernel_rfl) (fun K hK => ?_)
        go_big_quiet_op
        refine ⟨_, fun _ => cS _ _, hK _ ?_⟩
        clear hK K
        refine Leg.QW.want (by kernel_rfl) (fun K hK => ?_)
        go_big_quiet_op
        refine hK _ ?_
        clear hK K
        refine Leg.QW.want (by kernel_rfl) (fun K hK => ?_)
        go_big_quiet_op
        refine hK _ ?_
        clear hK K
        refine Leg.QW.want (by kernel_rfl) (fun K hK => ?_)
        go_big_quiet_op
        refine hK _ ?_
        clear hK K
        refine Leg.QW.want (by kernel_rfl) (fun K hK => ?_)
        go_big_quiet_op
        refine hK _ ?_
        clear hK K
        refine Leg.QW.want (by kernel_rfl) (fun K hK => ?_)
        go_big_quiet_op
        refine hK _ ?_
        clear hK K
        refine Leg.QW.want (by kernel_rfl) (fun K hK => ?_)
        go_big_quiet_op
        refine hK _ ?_
        clear hK K
        refine Leg.QW.want (by kernel_rfl) (fun K hK => ?_)
        go_big_quiet_op
        refine hK _ ?_
        clear hK K
        refine Leg.QW.want (by kernel_rfl) (fun K hK => ?_)
        go_big_quiet_op
        refine hK _ ?_
        clear hK K
        refine Leg.QW.want (by kernel_rfl) (fun K hK => ?_)
        go_big_quiet_op
        refine hK _ ?_
        clear hK K
        refine Leg.QW.want (by kernel_rfl) (fun K hK => ?_)
        go_big_quiet_op
        refine hK _ ?_
        clear hK K
        refine Leg.QW.want (by kernel_rfl) (fun K hK => ?_)
        go_big_quiet_op
        refine ⟨_, fun _ => cH _ _, hK _ ?_⟩
        clear hK K
        refine Leg.QW.want (by kernel_rfl) (fun K hK => ?_)
        go_big_quiet_op
        refine hK _ ?_
        clear hK K
        refine Leg.QW.nil ?_
        clear cS cH gv0 gv1 gv2 gv3 gv4 gv5 gv6 gy0 gy1 gra grb
        intro _ hw'
        obtain ⟨⟨dq, osq⟩, hw''⟩ := hw'
        subst hw''
        have hw9 := hBn.trans ((below_regrown wr1 dq osq).mono (by omega))
        clear hBn
        generalize grow (redrawn wr1 dq) osq = w9 at hw9 ⊢
        go_wp2
        go_ret
        exact ⟨by rw [HF.out]; rfl, box_under hw9⟩
    · have hke : k = x.2.1.length := by omega
      subst hke
      have HF : Hid (pb (Stays x f) = true) := HALL.out hpre.out
      have hbq := hB
      clear hpre h hf HALL HNO HRR hB
      go_wp2
      go_ret
      exact ⟨by rw [HF.out]; rfl, box_under hbq⟩

set_option maxRecDepth 100000 in
set_option maxHeartbeats 4000000 in
theorem iLawful (x : DFlyPath) (f : List Int) (ao : Option Addr) (cap : Nat) (bo : Option Addr) (bc : Nat) (w : World) (h : PathAt w x ao cap) (hf : SliceAt vInt (old w) w bo bc f) :
    Calls Try.prog 17 #[.agg #[.int .i64 x.1.1, .int .i64 x.1.2, .slice ao x.2.1.length cap, .int .i64 x.2.2.1, .int .i64 x.2.2.2], .slice bo f.length bc] w fun e w' => e = .returned (.bool (pb (Lawful x f))) ∧ Below w.heap.size w w' := by
  have hcl := h.1
  have hcm : cap ≤ 9223372036854775807 := h.2.1
  have hfl := hf.1
  have hfm : bc ≤ 9223372036854775807 := hf.2.1
  have HB0 : Below w.heap.size w (w.alloc (.cells #[.int .i64 x.1.1, .int .i64 x.1.2, .slice ao x.2.1.length cap, .int .i64 x.2.2.1, .int .i64 x.2.2.2] 35)) := (Below.refl _ _).alloc (Nat.le_refl _) _
  have HK := iPathOk x ao cap (w.alloc (.cells #[.int .i64 x.1.1, .int .i64 x.1.2, .slice ao x.2.1.length cap, .int .i64 x.2.2.1, .int .i64 x.2.2.2] 35)) (h.later HB0)
  by_cases hp : PathOk x
  · rw [pb_yes hp] at HK
    have hn40 := hp.2.1.2
    by_cases hl : f.length = x.2.1.length + 1
    · have hfI : (f.length : Int) = (x.2.1.length : Int) + 1 := by omega
      have hfb : ((f.length : Int) == (x.2.1.length : Int) + 1) = true := by simp; omega
      have HWI := fun W (hh : Below w.heap.size w W) => iWindows x f ao cap bo bc W (h.later hh) (hf.later hh) hp.2.1.2 hl
      by_cases hwi : Windows x f
      · rw [pb_yes hwi] at HWI
        have HST := fun W (hh : Below w.heap.size w W) => iStays x f ao cap bo bc W (h.later hh) (hf.later hh) hp.2.1.2 hl (fun i hi => by
          have h1 := hwi i hi
          have h2 := win_range hp i
          have h3 := h1.1
          have h4 := h1.2
          omega)
        have HR : Hid (pb (Lawful x f) = pb (Stays x f)) := pb_same ⟨fun h => h.2.2.2, fun h => ⟨hp, hl, hwi, h⟩⟩
        generalize pb (Stays x f) = v at *
        clear hp hl hwi
        go_enter Try.func17, Try.ntmps17
        go_wp2_with fail
        refine HK.mono ?_
        rintro e w1 ⟨rfl, hb1⟩
        have hB1 := HB0.trans (hb1.mono HB0.size)
        have z0 := box_in hb1 0
        have z1 := box_in hb1 1
        have z2 := box_in hb1 2
        have z3 := box_in hb1 3
        have z4 := box_in hb1 4
        simp at z0 z1 z2 z3 z4
        have hb1s := hb1.size
        simp at hb1s
        clear HK
        have HT := HWI w1 hB1
        clear HWI
        go_wp2_with fail
        refine HT.mono ?_
        rintro e w2 ⟨rfl, hb2⟩
        have hB2 := hB1.trans (hb2.mono hB1.size)
        have hb12 := hb1.trans (hb2.mono (by simp; omega))
        have y0 := box_in hb12 0
        have y1 := box_in hb12 1
        have y2 := box_in hb12 2
        have y3 := box_in hb12 3
        have y4 := box_in hb12 4
        simp at y0 y1 y2 y3 y4
        clear HT z0 z1 z2 z3 z4 hb1 hb2 hB1
        have HT := HST w2 hB2
        clear HST
        go_wp2_with fail
        refine HT.mono ?_
        rintro e w3 ⟨rfl, hb3⟩
        have hB3 := hB2.trans (hb3.mono hB2.size)
        clear HT hb3 hB2 hb12 y0 y1 y2 y3 y4
        go_wp2
        go_ret
        exact ⟨by rw [HR.out]; rfl, hB3⟩
      · rw [pb_no hwi] at HWI
        have HR : Hid (pb (Lawful x f) = false) := pb_no fun h => hwi h.2.2.1
        clear hp hl hwi
        go_enter Try.func17, Try.ntmps17
        go_wp2_with fail
        refine HK.mono ?_
        rintro e w1 ⟨rfl, hb1⟩
        have hB1 := HB0.trans (hb1.mono HB0.size)
        have z0 := box_in hb1 0
        have z1 := box_in hb1 1
        have z2 := box_in hb1 2
        have z3 := box_in hb1 3
        have z4 := box_in hb1 4
        simp at z0 z1 z2 z3 z4
        clear HK
        have HT := HWI w1 hB1
        clear HWI
        go_wp2_with fail
        refine HT.mono ?_
        rintro e w2 ⟨rfl, hb2⟩
        have hB2 := hB1.trans (hb2.mono hB1.size)
        clear HT z0 z1 z2 z3 z4 hb1 hb2 hB1
        go_wp2
        go_ret
        exact ⟨by rw [HR.out]; first | rfl | (simp; done), hB2⟩
    · have hfI : ¬ (f.length : Int) = (x.2.1.length : Int) + 1 := by omega
      have hfb : ((f.length : Int) == (x.2.1.length : Int) + 1) = false := by simp; omega
      have HR : Hid (pb (Lawful x f) = false) := pb_no fun h => hl h.2.1
      clear hp
      go_enter Try.func17, Try.ntmps17
      go_wp2_with fail
      refine HK.mono ?_
      rintro e w1 ⟨rfl, hb1⟩
      have hB1 := HB0.trans (hb1.mono HB0.size)
      have z2 := box_in hb1 2
      simp at z2
      clear HK hb1
      go_wp2
      go_ret
      exact ⟨by rw [HR.out]; first | rfl | (simp; done) | (simp; omega), hB1⟩
  · rw [pb_no hp] at HK
    have HR : Hid (pb (Lawful x f) = false) := pb_no fun h => hp h.1
    clear hp
    go_enter Try.func17, Try.ntmps17
    go_wp2_with fail
    refine HK.mono ?_
    rintro e w1 ⟨rfl, hb1⟩
    have hB1 := HB0.trans (hb1.mono HB0.size)
    clear HK hb1
    go_wp2
    go_ret
    exact ⟨by rw [HR.out]; first | rfl | (simp; done), hB1⟩

end Fly
end Go.Proofs.Ytfjeiegoblaadaa
