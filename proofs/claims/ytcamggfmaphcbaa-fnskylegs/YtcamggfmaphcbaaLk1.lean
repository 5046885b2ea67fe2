/- DERIVED. laws.FnSkyLegs: its walk. -/
import Derived.Test.YtcamggfmaphcbaaLk0
import Derived.Test.YtcamggfmaphcbaaLw1
import Derived.Test.YtcamggfmaphcbaaWq0
namespace Go.Proofs.Ytcamggfmaphcbaa
namespace Leg
open Go.RowKit Go.Sort
set_option linter.unusedSimpArgs false
set_option linter.unusedVariables false

set_option maxRecDepth 100000 in
theorem law_long (ao : Option Addr) (len cap : Nat) (w : World) (h : 1048576 < len) :
    Calls Try.prog 3 #[.slice ao len cap] w fun e w' => e = .returned (.bool true) ∧ Below w.heap.size w w' := by
  go_enter Try.func3, Try.ntmps3
  go_wp2_with fail
  go_ret
  exact ⟨rfl, Below.refl _ _⟩

/-- The two boxes, and two cells of a list. -/
def BoxK (A g o0 o1 o2 o3 : Nat) (a b p q : DCell) (W : World) : Prop :=
  BoxL A a b W ∧ W.cell? ⟨g, o0, none⟩ = some (.int .i64 p.1) ∧ W.cell? ⟨g, o1, none⟩ = some (.int .i64 p.2) ∧ W.cell? ⟨g, o2, none⟩ = some (.int .i64 q.1) ∧ W.cell? ⟨g, o3, none⟩ = some (.int .i64 q.2)
theorem BoxK.below {A g o0 o1 o2 o3 n : Nat} {a b p q : DCell} {w w' : World} (h : BoxK A g o0 o1 o2 o3 a b p q w) (hb : Below n w w') (hA : A + 2 ≤ n) (hg : g < n) : BoxK A g o0 o1 o2 o3 a b p q w' := by
  obtain ⟨h0, h1, h2, h3, h4⟩ := h
  exact ⟨h0.below hb hA, (hb.cell (p := ⟨g, o0, none⟩) hg).trans h1, (hb.cell (p := ⟨g, o1, none⟩) hg).trans h2, (hb.cell (p := ⟨g, o2, none⟩) hg).trans h3, (hb.cell (p := ⟨g, o3, none⟩) hg).trans h4⟩

theorem mul_b (n k q a b : Int) (hn : 0 ≤ n) (hn2 : n ≤ 15) (hk : 0 ≤ k) (hk2 : k ≤ n) (_h : 0 ≤ n) (q1 : -20 ≤ q) (q2 : q ≤ 40) (ha : 0 ≤ a ∧ a ≤ 15) (hb : 0 ≤ b ∧ b ≤ 15) :
    (-3000 ≤ 2 * n * (q - a) ∧ 2 * n * (q - a) ≤ 3000) ∧ -3000 ≤ 2 * k * (b - a) ∧ 2 * k * (b - a) ≤ 3000 := by
  have h1 := Int.mul_le_mul_of_nonneg_left (by omega : q - a ≤ 100) (by omega : 0 ≤ 2 * n)
  have h2 := Int.mul_le_mul_of_nonneg_left (by omega : -100 ≤ q - a) (by omega : 0 ≤ 2 * n)
  have h3 := Int.mul_le_mul_of_nonneg_left (by omega : b - a ≤ 100) (by omega : 0 ≤ 2 * k)
  have h4 := Int.mul_le_mul_of_nonneg_left (by omega : -100 ≤ b - a) (by omega : 0 ≤ 2 * k)
  omega

/-- The two boxes, and the cells of a list. -/
def LegW (A g n : Nat) (F : Nat → DCell) (a b : DCell) (W : World) : Prop :=
  BoxL A a b W ∧ ∀ i, i ≤ n → W.cell? ⟨g, i * 2, none⟩ = some (.int .i64 (F i).1) ∧ W.cell? ⟨g, i * 2 + 1, none⟩ = some (.int .i64 (F i).2)
theorem LegW.below {A g m n : Nat} {F : Nat → DCell} {a b : DCell} {w w' : World} (h : LegW A g m F a b w) (hb : Below n w w') (hA : A + 2 ≤ n) (hg : g < n) : LegW A g m F a b w' :=
  ⟨h.1.below hb hA, fun i hi => ⟨(hb.cell (p := ⟨g, i * 2, none⟩) hg).trans (h.2 i hi).1, (hb.cell (p := ⟨g, i * 2 + 1, none⟩) hg).trans (h.2 i hi).2⟩⟩

set_option maxHeartbeats 8000000 in
set_option maxRecDepth 100000 in
theorem law_short (ao : Option Addr) (len cap : Nat) (w : World) (hc : Code8 w ao len cap) (h : ¬ 1048576 < len) :
    Calls Try.prog 3 #[.slice ao len cap] w fun e w' => e = .returned (.bool true) ∧ Below w.heap.size w w' := by
  have hd : decide ((1048576 : Int) < (len : Int)) = false := by simp; omega
  have HD := drawLeg ao len cap w hc
  go_enter Try.func3, Try.ntmps3
  go_wp2_with fail
  refine HD.mono ?_
  rintro e w1 ⟨a, b, rfl, hb1⟩
  clear HD hc
  have HS := fun W => sLeg a b W
  have HI := fun W => iLeg a b W
  have HJ := fun W => iLeg b a W
  rw [leg_rev a b, List.length_reverse] at HJ
  have hnone : Hid (legOf a b = [] → ¬ (InLeg a ∧ InLeg b)) := fun h0 hi => by
    obtain ⟨n, _, _, h3, _⟩ := leg_ok a b hi.1 hi.2
    rw [h0] at h3
    simp at h3
  have hsome : Hid (legOf a b ≠ [] → InLeg a ∧ InLeg b) := fun h0 => Classical.byContradiction fun hi => h0 (leg_none a b hi)
  have hok : Hid (InLeg a → InLeg b → _) := leg_ok a b
  obtain ⟨w2, hw2⟩ : ∃ w2, w2 = (w1.alloc (.cells #[.int .i64 a.1, .int .i64 a.2] 24)).alloc (.cells #[.int .i64 b.1, .int .i64 b.2] 24) := ⟨_, rfl⟩
  have hB2 : Below w.heap.size w w2 := by rw [hw2]; exact ((hb1.alloc hb1.size _).alloc (by have := hb1.size; simp; omega) _)
  have hz2 : Hid (w2.heap.size = w1.heap.size + 2) := by rw [hw2]; show _ = _; simp
  have HC : BoxL w1.heap.size a b w2 := by rw [hw2]; exact ⟨by go_simp, by go_simp, by go_simp, by go_simp⟩
  obtain ⟨x, y⟩ := a
  obtain ⟨x', y'⟩ := b
  simp only [vCe] at *
  go_wp2_with fail
  rw [← hw2]
  clear hw2 hb1
  have hs2 : w1.heap.size + 2 ≤ w2.heap.size := Nat.le_of_eq hz2.out.symm
  have hs0 := hB2.size
  obtain ⟨A, hA⟩ : ∃ A, A = w1.heap.size := ⟨_, rfl⟩
  rw [← hA] at HC hs2 ⊢
  clear hz2 hA
  refine (HI _).mono ?_
  rintro e w3 ⟨v1, rfl, hO1, hb3⟩
  obtain ⟨ao1, cap1, rfl, hL1, hm1, hg1, _⟩ := cells_of_owned hO1
  have HC3 := HC.below hb3 hs2
  have hB3 := hB2.trans (hb3.mono hs0)
  have hs3 := Nat.le_trans hs2 hb3.size
  have hs03 := hB3.size
  obtain ⟨d0, d1, d2, d3⟩ := HC3
  simp only at d0 d1 d2 d3
  clear HC hO1 hb3 HI hg1
  go_wp2_with fail
  refine (HJ _).mono ?_
  rintro e w4 ⟨v2, rfl, hO2, hb4⟩
  have hO2' := hO2
  rw [← List.length_reverse] at hO2'
  obtain ⟨ao2, cap2, hv2, hL2, hm2, hg2, _⟩ := cells_of_owned hO2'
  rw [List.length_reverse] at hv2
  subst hv2
  have HC4 := BoxL.below (p := (x, y)) (q := (x', y')) ⟨d0, d1, d2, d3⟩ hb4 hs3
  have hL1 := hL1.later hb4
  have hB4 := hB3.trans (hb4.mono hs03)
  have hs4 := Nat.le_trans hs3 hb4.size
  have hs04 := hB4.size
  clear d0 d1 d2 d3 hO2 hO2' hb4 HJ hg2 hB3 hm2
  obtain ⟨d0, d1, d2, d3⟩ := HC4
  simp only at d0 d1 d2 d3
  go_wp2_with fail
  refine (HS _).mono ?_
  rintro e w5 ⟨v3, rfl, hO3, hb5⟩
  obtain ⟨ao3, cap3, rfl, hL3, hm3, hg3, _⟩ := cells_of_owned hO3
  have HC5 := BoxL.below (p := (x, y)) (q := (x', y')) ⟨d0, d1, d2, d3⟩ hb5 hs4
  have hL1 := hL1.later hb5
  have hL2 := hL2.later hb5
  have hB5 := hB4.trans (hb5.mono hs04)
  have hs5 := Nat.le_trans hs4 hb5.size
  have hs05 := hB5.size
  clear d0 d1 d2 d3 hO3 hb5 HS hg3 hB4
  go_wp2_with fail
  refine (lCells ao1 ao3 cap1 cap3 _ _ hm1 hL1 hL3).mono ?_
  rintro e w6 ⟨rfl, hb6⟩
  have HC6 := HC5.below hb6 hs5
  have hL1 := hL1.later hb6
  have hL2 := hL2.later hb6
  have hB6 := hB5.trans (hb6.mono hs05)
  have hs6 := Nat.le_trans hs5 hb6.size
  have hs06 := hB6.size
  clear hL3 HC5 hb6 hB5 hm3 hs05 hs04 hs03 hs0 hs2 hs3 hs4 hs5 hB2
  have hl16 : Hid ((legOf (x, y) (x', y')).length ≤ 16) := by
    show _ ≤ _
    by_cases h0 : legOf (x, y) (x', y') = []
    · rw [h0]; simp
    · obtain ⟨hi, hi'⟩ := hsome.out h0
      obtain ⟨n, _, h2, h3, _⟩ := hok.out hi hi'
      omega
  generalize legOf (x, y) (x', y') = L at *
  have hl16' := hl16.out
  clear hm1 hl16
  go_wp2
  go_loopw [7] (fun i wr => ∃ k : Nat, k ≤ L.length ∧ i = .int .i64 k ∧ ∃ n, wr = w6.drewN n) (fun i _ => L.length - (intOf i).toNat)
  case atStart => exact ⟨0, Nat.zero_le _, rfl, 0, rfl⟩
  case round =>
    obtain ⟨k, hk, rfl, nd, rfl⟩ := hrel
    by_cases hlt : k < L.length
    · have hrl : L.length - 1 - k < L.reverse.length := by rw [List.length_reverse]; omega
      obtain ⟨g, rfl, hgw, c0, c1⟩ := hL1.at hlt
      obtain ⟨g', rfl, hgw', c0', c1'⟩ := hL2.at hrl
      have er : L.reverse[L.length - 1 - k]'hrl = L[k]'hlt := by
        rw [List.getElem_reverse]
        congr 1
        omega
      rw [er] at c0' c1'
      clear er hL1 hL2 HC6 hnone hsome hok
      generalize L[k] = z at *
      obtain ⟨m, hm⟩ : ∃ m, m = L.length - 1 - k := ⟨_, rfl⟩
      rw [← hm] at c0' c1' hrl
      have em : (L.length : Int) - 1 - (k : Int) = (m : Int) := by omega
      have hmL : m < L.length := by omega
      clear hm hrl
      go_wp2
      go_quiet (fail)
      go_wp2
      go_roundw
      case rel => exact ⟨k + 1, by omega, by go_num, _, rfl⟩
      case measure => simp [intOf]; omega
    · obtain ⟨w7, hw7⟩ : ∃ w7, w7 = w6.drewN nd := ⟨_, rfl⟩
      have hb7 : Below w6.heap.size w6 w7 := by rw [hw7]; exact below_drewN (Below.refl _ _) nd
      have HC7 := HC6.below hb7 hs6
      have hL7 := hL1.later hb7
      have hB7 := hB6.trans (hb7.mono hs06)
      have hs7 := Nat.le_trans hs6 hb7.size
      rw [← hw7]
      clear hw7 hb7 HC6 hL1 hL2 hB6 hs6
      obtain ⟨d0, d1, d2, d3⟩ := HC7
      simp only at d0 d1 d2 d3
      by_cases hL0 : L = []
      · have hno := hnone.out hL0
        subst hL0
        simp only [InLeg] at hno
        clear hnone hsome hok hL7
        by_cases q0 : x < 0
        · clear hno
          go_wp2
          go_ret
          exact ⟨rfl, hB7⟩
        · skip
          by_cases q1 : y < 0
          · clear hno
            go_wp2
            go_ret
            exact ⟨rfl, hB7⟩
          · skip
            by_cases q2 : x' < 0
            · clear hno
              go_wp2
              go_ret
              exact ⟨rfl, hB7⟩
            · skip
              by_cases q3 : y' < 0
              · clear hno
                go_wp2
                go_ret
                exact ⟨rfl, hB7⟩
              · skip
                by_cases q4 : 16 ≤ x
                · clear hno
                  go_wp2
                  go_ret
                  exact ⟨rfl, hB7⟩
                · skip
                  by_cases q5 : 16 ≤ y
                  · clear hno
                    go_wp2
                    go_ret
                    exact ⟨rfl, hB7⟩
                  · skip
                    by_cases q6 : 16 ≤ x'
                    · clear hno
                      go_wp2
                      go_ret
                      exact ⟨rfl, hB7⟩
                    · skip
                      by_cases q7 : 16 ≤ y'
                      · clear hno
                        go_wp2
                        go_ret
                        exact ⟨rfl, hB7⟩
                      · exact absurd ⟨⟨⟨by omega, by omega⟩, by omega, by omega⟩, ⟨by omega, by omega⟩, by omega, by omega⟩ hno
      · obtain ⟨hi, hi'⟩ := hsome.out hL0
        obtain ⟨n, hn, hn15, hlen, hfst, hlst, hcells⟩ := hok.out hi hi'
        clear hnone hsome hok hL0
        rcases hL7 with h0 | ⟨g, rfl, hg, hcs⟩
        · rw [h0] at hlen; simp at hlen
        · obtain ⟨F, hF⟩ : ∃ F : Nat → DCell, ∀ i (h : i < L.length), L[i]'h = F i := ⟨fun i => L.getD i (0, 0), fun i h => by simp [h]⟩
          have hF0 : F 0 = (x, y) := by rw [← hF 0 (by omega)]; exact hfst _
          have hFn : F n = (x', y') := by rw [← hF n (by omega)]; exact hlst _
          have hLW : LegW A g n F (x, y) (x', y') w7 := ⟨⟨d0, d1, d2, d3⟩, fun i hi => by
            have h1 := hcs i (by omega)
            rw [hF i (by omega)] at h1
            exact h1⟩
          have hOk : Hid (1 ≤ n → ∀ i, i ≤ n → CellOk n x x' i (F i).1 ∧ CellOk n y y' i (F i).2) := fun h1 i hi => by
            have h2 := hcells h1 i (by omega)
            rw [hF i (by omega)] at h2
            exact h2
          clear hcs hcells hfst hlst hF
          generalize L.length = ℓ at *
          have e0 : (ℓ : Int) - 1 = (n : Int) := by omega
          have hℓ1 : ¬ (ℓ : Int) = 0 := by omega
          have hℓ2 : ¬ ℓ = 0 := by omega
          have hℓ3 : 0 < ℓ := by omega
          have hℓ4 : n < ℓ := by omega
          by_cases hn0 : n = 0
          · subst hn0
            have hab := hF0.symm.trans hFn
            simp only [Prod.mk.injEq] at hab
            obtain ⟨rfl, rfl⟩ := hab
            have h1 := hLW.2 0 (Nat.le_refl _)
            rw [hF0] at h1
            obtain ⟨f0, f1⟩ := h1
            simp at f0 f1
            clear hOk hLW hF0 hFn hi hi'
            go_wp2
            go_quiet (fail)
            go_wp2
            go_loop [9] (fun i => i = .int .i64 1) (fun _ => 0)
            case atStart => exact rfl
            case round =>
              subst hrel
              go_wp2
              go_ret
              exact ⟨rfl, by repeat (first | exact hB7 | refine below_drewN ?_ _ | refine Below.drew ?_)⟩
          · have hn1 : 1 ≤ n := by omega
            have hSa : SmallC (x, y) := by obtain ⟨⟨p1, p2⟩, p3, p4⟩ := hi; simp only at *; exact ⟨⟨by omega, by omega⟩, by omega, by omega⟩
            have hSb : SmallC (x', y') := by obtain ⟨⟨p1, p2⟩, p3, p4⟩ := hi'; simp only at *; exact ⟨⟨by omega, by omega⟩, by omega, by omega⟩
            have HM := fun W => lMost (x, y) (x', y') W hSa hSb
            rw [hn] at HM
            simp only at HM
            have cM : ∀ d os, Calls Try.prog 9 #[.agg #[.int .i64 x, .int .i64 y], .agg #[.int .i64 x', .int .i64 y']] (grow (redrawn w7 d) os) fun e w'' => e = .returned (.int .i64 (n : Int)) ∧ ∃ p : Regrown, w'' = grow (redrawn w7 p.d) p.os := fun d os => Calls.regrown_of (HM _)
            clear HM
            have hnP : 0 < n := by omega
            have h1 := hLW.2 0 (Nat.zero_le _)
            have h2 := hLW.2 n (Nat.le_refl _)
            rw [hF0] at h1
            rw [hFn] at h2
            obtain ⟨f0, f1⟩ := h1
            obtain ⟨f2, f3⟩ := h2
            simp at f0 f1
            have g0 := cell_regrown f0
            have g1 := cell_regrown f1
            have g2 := cell_regrown f2
            have g3 := cell_regrown f3
            have k0 := cell_regrown d0
            have k1 := cell_regrown d1
            have k2 := cell_regrown d2
            have k3 := cell_regrown d3
            have HLW : Hid (LegW A g n F (x, y) (x', y') w7) := hLW
            clear hLW hlen d0 d1 d2 d3 f0 f1 f2 f3 hSa hSb
            have HF0 : Hid (F 0 = (x, y)) := hF0
            clear hF0 hFn
            go_wp2_with fail
            refine wp_region_qw (by kernel_rfl) (by kernel_rfl) ?_
            refine QW.want (by kernel_rfl) (fun K hK => ?_)
            go_big_quiet_op
            refine hK _ ?_
            clear hK K
            refine QW.want (by kernel_rfl) (fun K hK => ?_)
            go_big_quiet_op
            refine hK _ ?_
            clear hK K
            refine QW.want (by kernel_rfl) (fun K hK => ?_)
            go_big_quiet_op
            refine hK _ ?_
            clear hK K
            refine QW.want (by kernel_rfl) (fun K hK => ?_)
            go_big_quiet_op
            refine hK _ ?_
            clear hK K
            refine QW.want (by kernel_rfl) (fun K hK => ?_)
            go_big_quiet_op
            refine hK _ ?_
            clear hK K
            refine QW.want (by kernel_rfl) (fun K hK => ?_)
            go_big_quiet_op
            refine ⟨_, fun _ => cM _ _, hK _ ?_⟩
            clear hK K
            refine QW.want (by kernel_rfl) (fun K hK => ?_)
            go_big_quiet_op
            refine hK _ ?_
            clear hK K
            refine QW.want (by kernel_rfl) (fun K hK => ?_)
            go_big_quiet_op
            refine hK _ ?_
            clear hK K
            refine QW.want (by kernel_rfl) (fun K hK => ?_)
            go_big_quiet_op
            refine hK _ ?_
            clear hK K
            refine QW.want (by kernel_rfl) (fun K hK => ?_)
            go_big_quiet_op
            refine hK _ ?_
            clear hK K
            refine QW.want (by kernel_rfl) (fun K hK => ?_)
            go_big_quiet_op
            refine hK _ ?_
            clear hK K
            refine QW.want (by kernel_rfl) (fun K hK => ?_)
            go_big_quiet_op
            refine hK _ ?_
            clear hK K
            refine QW.want (by kernel_rfl) (fun K hK => ?_)
            go_big_quiet_op
            refine hK _ ?_
            clear hK K
            refine QW.want (by kernel_rfl) (fun K hK => ?_)
            go_big_quiet_op
            refine hK _ ?_
            clear hK K
            refine QW.want (by kernel_rfl) (fun K hK => ?_)
            go_big_quiet_op
            refine hK _ ?_
            clear hK K
            refine QW.want (by kernel_rfl) (fun K hK => ?_)
            go_big_quiet_op
            refine hK _ ?_
            clear hK K
            refine QW.want (by kernel_rfl) (fun K hK => ?_)
            go_big_quiet_op
            refine hK _ ?_
            clear hK K
            refine QW.want (by kernel_rfl) (fun K hK => ?_)
            go_big_quiet_op
            refine hK _ ?_
            clear hK K
            refine QW.want (by kernel_rfl) (fun K hK => ?_)
            go_big_quiet_op
            refine hK _ ?_
            clear hK K
            refine QW.want (by kernel_rfl) (fun K hK => ?_)
            go_big_quiet_op
            refine hK _ ?_
            clear hK K
            refine QW.want (by kernel_rfl) (fun K hK => ?_)
            go_big_quiet_op
            refine hK _ ?_
            clear hK K
            refine QW.want (by kernel_rfl) (fun K hK => ?_)
            go_big_quiet_op
            refine hK _ ?_
            clear hK K
            refine QW.want (by kernel_rfl) (fun K hK => ?_)
            go_big_quiet_op
            refine hK _ ?_
            clear hK K
            refine QW.want (by kernel_rfl) (fun K hK => ?_)
            go_big_quiet_op
            refine hK _ ?_
            clear hK K
            refine QW.nil ?_
            intro _ hw'
            obtain ⟨⟨dq, osq⟩, hw''⟩ := hw'
            subst hw''
            have hb8 := below_regrown w7 dq osq
            have hB8 := hB7.trans (hb8.mono hB7.size)
            have HLW8 : LegW A g n F (x, y) (x', y') (grow (redrawn w7 dq) osq) := HLW.out.below hb8 hs7 hg
            have hs8 := Nat.le_trans hs7 hb8.size
            have hg8 := Nat.lt_of_lt_of_le hg hb8.size
            clear g0 g1 g2 g3 k0 k1 k2 k3 cM HLW hb8 hB7 hs7 hg
            generalize grow (redrawn w7 dq) osq = w8 at *
            go_wp2
            go_loopw [9] (fun i wr => ∃ k : Nat, 1 ≤ k ∧ k ≤ n + 1 ∧ i = .int .i64 k ∧ Below w.heap.size w wr ∧ LegW A g n F (x, y) (x', y') wr ∧ A + 2 ≤ wr.heap.size ∧ g < wr.heap.size) (fun i _ => n + 1 - (intOf i).toNat)
            case atStart => exact ⟨1, Nat.le_refl _, by omega, rfl, hB8, HLW8, hs8, hg8⟩
            case round =>
              clear HLW8 hB8 hs8 hg8
              obtain ⟨k, hk1, hk2, rfl, hBr, hLWr, hsr, hgr⟩ := hrel
              by_cases hkn : k ≤ n
              · obtain ⟨j, hj⟩ : ∃ j, j = k - 1 := ⟨_, rfl⟩
                obtain ⟨okx, oky⟩ := hOk.out hn1 k hkn
                obtain ⟨ojx, ojy⟩ := hOk.out hn1 j (by omega)
                have ej : (k : Int) - 1 = (j : Int) := by omega
                have ej' : (k : Int) = (j : Int) + 1 := by omega
                have hst : stepsOf (F j) (F k) = 1 := steps_one (n := (n : Int)) (a := (x, y)) (b := (x', y')) (i := (j : Int)) hi hi' hn (by omega) ojx ojy (by rw [← ej']; exact okx) (by rw [← ej']; exact oky)
                obtain ⟨f0, f1⟩ := hLWr.2 j (by omega)
                obtain ⟨f2, f3⟩ := hLWr.2 k hkn
                have HLWr : Hid (LegW A g n F (x, y) (x', y') wr) := hLWr
                obtain ⟨d0, d1, d2, d3⟩ := hLWr.1
                simp only at d0 d1 d2 d3
                have hSj : SmallC (F j) := ⟨⟨by have := ojx.r1; omega, by have := ojx.r2; omega⟩, by have := ojy.r1; omega, by have := ojy.r2; omega⟩
                have hSk : SmallC (F k) := ⟨⟨by have := okx.r1; omega, by have := okx.r2; omega⟩, by have := oky.r1; omega, by have := oky.r2; omega⟩
                have HM := fun W => lMost (F j) (F k) W hSj hSk
                rw [hst] at HM
                clear hst hSj hSk ej' ojx ojy hLWr
                obtain ⟨⟨ix1, ix2⟩, iy1, iy2⟩ := hi
                obtain ⟨⟨ix1', ix2'⟩, iy1', iy2'⟩ := hi'
                simp only at ix1 ix2 iy1 iy2 ix1' ix2' iy1' iy2'
                have HI : Hid (InLeg (x, y) ∧ InLeg (x', y')) := ⟨⟨⟨ix1, ix2⟩, iy1, iy2⟩, ⟨ix1', ix2'⟩, iy1', iy2'⟩
                obtain ⟨lx, hx, rx1, rx2⟩ := okx
                obtain ⟨ly, hy, ry1, ry2⟩ := oky
                obtain ⟨bx1, bx2⟩ := mul_b (n : Int) k ((F k).1) x x' (by omega) (by omega) (by omega) (by omega) (by omega) rx1 rx2 ⟨ix1, ix2⟩ ⟨ix1', ix2'⟩
                obtain ⟨by1, by2⟩ := mul_b (n : Int) k ((F k).2) y y' (by omega) (by omega) (by omega) (by omega) (by omega) ry1 ry2 ⟨iy1, iy2⟩ ⟨iy1', iy2'⟩
                obtain ⟨bx3, bx4⟩ := bx2
                obtain ⟨bx1, bx2⟩ := bx1
                obtain ⟨by3, by4⟩ := by2
                obtain ⟨by1, by2⟩ := by1
                generalize F j = P at *
                generalize F k = Q at *
                obtain ⟨px, py⟩ := P
                obtain ⟨qx, qy⟩ := Q
                simp only at *
                obtain ⟨ax, hax⟩ : ∃ ax : Int, ax = if 2 * (n : Int) * (qx - x) - 2 * (k : Int) * (x' - x) < 0 then -(2 * (n : Int) * (qx - x) - 2 * (k : Int) * (x' - x)) else 2 * (n : Int) * (qx - x) - 2 * (k : Int) * (x' - x) := ⟨_, rfl⟩
                obtain ⟨ay, hay⟩ : ∃ ay : Int, ay = if 2 * (n : Int) * (qy - y) - 2 * (k : Int) * (y' - y) < 0 then -(2 * (n : Int) * (qy - y) - 2 * (k : Int) * (y' - y)) else 2 * (n : Int) * (qy - y) - 2 * (k : Int) * (y' - y) := ⟨_, rfl⟩
                have hax2 : ax ≤ (n : Int) := by split at hax <;> omega
                have hay2 : ay ≤ (n : Int) := by split at hay <;> omega
                have HX := fun W => lAbs (2 * (n : Int) * (qx - x) - 2 * (k : Int) * (x' - x)) ax W ⟨by omega, by omega⟩ hax
                have HY := fun W => lAbs (2 * (n : Int) * (qy - y) - 2 * (k : Int) * (y' - y)) ay W ⟨by omega, by omega⟩ hay
                clear hax hay
                have hax3 : decide ((n : Int) < ax) = false := by simp; omega
                have hay3 : decide ((n : Int) < ay) = false := by simp; omega
                have cM : ∀ d os, Calls Try.prog 9 #[.agg #[.int .i64 px, .int .i64 py], .agg #[.int .i64 qx, .int .i64 qy]] (grow (redrawn wr d) os) fun e w'' => e = .returned (.int .i64 1) ∧ ∃ p : Regrown, w'' = grow (redrawn wr p.d) p.os := fun d os => Calls.regrown_of (HM _)
                have cX : ∀ d os, Calls Try.prog 10 #[.int .i64 (2 * (n : Int) * (qx - x) - 2 * (k : Int) * (x' - x))] (grow (redrawn wr d) os) fun e w'' => e = .returned (.int .i64 ax) ∧ ∃ p : Regrown, w'' = grow (redrawn wr p.d) p.os := fun d os => (HX _).mono fun e w'' h => ⟨h.1, ⟨d, os⟩, h.2.symm⟩
                have cY : ∀ d os, Calls Try.prog 10 #[.int .i64 (2 * (n : Int) * (qy - y) - 2 * (k : Int) * (y' - y))] (grow (redrawn wr d) os) fun e w'' => e = .returned (.int .i64 ay) ∧ ∃ p : Regrown, w'' = grow (redrawn wr p.d) p.os := fun d os => (HY _).mono fun e w'' h => ⟨h.1, ⟨d, os⟩, h.2.symm⟩
                clear HM HX HY
                have hjk : j < ℓ := by omega
                have hkℓ : k < ℓ := by omega
                have g0 := cell_regrown f0
                have g1 := cell_regrown f1
                have g2 := cell_regrown f2
                have g3 := cell_regrown f3
                have k0 := cell_regrown d0
                have k1 := cell_regrown d1
                have k2 := cell_regrown d2
                have k3 := cell_regrown d3
                clear d0 d1 d2 d3 f0 f1 f2 f3 hj
                go_wp2_with fail
                refine wp_region_qw (by kernel_rfl) (by kernel_rfl) ?_
                refine QW.want (by kernel_rfl) (fun K hK => ?_)
                go_big_quiet_op
                refine hK _ ?_
                clear hK K
                refine QW.want (by kernel_rfl) (fun K hK => ?_)
                go_big_quiet_op
                refine hK _ ?_
                clear hK K
                refine QW.want (by kernel_rfl) (fun K hK => ?_)
                go_big_quiet_op
                refine hK _ ?_
                clear hK K
                refine QW.want (by kernel_rfl) (fun K hK => ?_)
                go_big_quiet_op
                refine hK _ ?_
                clear hK K
                refine QW.want (by kernel_rfl) (fun K hK => ?_)
                go_big_quiet_op
                refine hK _ ?_
                clear hK K
                refine QW.want (by kernel_rfl) (fun K hK => ?_)
                go_big_quiet_op
                refine hK _ ?_
                clear hK K
                refine QW.want (by kernel_rfl) (fun K hK => ?_)
                go_big_quiet_op
                refine hK _ ?_
                clear hK K
                refine QW.want (by kernel_rfl) (fun K hK => ?_)
                go_big_quiet_op
                refine hK _ ?_
                clear hK K
                refine QW.want (by kernel_rfl) (fun K hK => ?_)
                go_big_quiet_op
                refine hK _ ?_
                clear hK K
                refine QW.want (by kernel_rfl) (fun K hK => ?_)
                go_big_quiet_op
                refine ⟨_, fun _ => cM _ _, hK _ ?_⟩
                clear hK K
                refine QW.want (by kernel_rfl) (fun K hK => ?_)
                go_big_quiet_op
                refine hK _ ?_
                clear hK K
                refine QW.want (by kernel_rfl) (fun K hK => ?_)
                go_big_quiet_op
                refine hK _ ?_
                clear hK K
                refine QW.want (by kernel_rfl) (fun K hK => ?_)
                go_big_quiet_op
                refine hK _ ?_
                clear hK K
                refine QW.want (by kernel_rfl) (fun K hK => ?_)
                go_big_quiet_op
                refine hK _ ?_
                clear hK K
                refine QW.want (by kernel_rfl) (fun K hK => ?_)
                go_big_quiet_op
                refine hK _ ?_
                clear hK K
                refine QW.want (by kernel_rfl) (fun K hK => ?_)
                go_big_quiet_op
                refine hK _ ?_
                clear hK K
                refine QW.want (by kernel_rfl) (fun K hK => ?_)
                go_big_quiet_op
                refine hK _ ?_
                clear hK K
                refine QW.want (by kernel_rfl) (fun K hK => ?_)
                go_big_quiet_op
                refine hK _ ?_
                clear hK K
                refine QW.want (by kernel_rfl) (fun K hK => ?_)
                go_big_quiet_op
                refine hK _ ?_
                clear hK K
                refine QW.want (by kernel_rfl) (fun K hK => ?_)
                go_big_quiet_op
                refine hK _ ?_
                clear hK K
                refine QW.want (by kernel_rfl) (fun K hK => ?_)
                go_big_quiet_op
                refine hK _ ?_
                clear hK K
                refine QW.want (by kernel_rfl) (fun K hK => ?_)
                go_big_quiet_op
                refine hK _ ?_
                clear hK K
                refine QW.want (by kernel_rfl) (fun K hK => ?_)
                go_big_quiet_op
                refine hK _ ?_
                clear hK K
                refine QW.want (by kernel_rfl) (fun K hK => ?_)
                go_big_quiet_op
                refine hK _ ?_
                clear hK K
                refine QW.want (by kernel_rfl) (fun K hK => ?_)
                go_big_quiet_op
                refine hK _ ?_
                clear hK K
                refine QW.want (by kernel_rfl) (fun K hK => ?_)
                go_big_quiet_op
                refine hK _ ?_
                clear hK K
                refine QW.want (by kernel_rfl) (fun K hK => ?_)
                go_big_quiet_op
                refine hK _ ?_
                clear hK K
                refine QW.want (by kernel_rfl) (fun K hK => ?_)
                go_big_quiet_op
                refine hK _ ?_
                clear hK K
                refine QW.want (by kernel_rfl) (fun K hK => ?_)
                go_big_quiet_op
                refine hK _ ?_
                clear hK K
                refine QW.want (by kernel_rfl) (fun K hK => ?_)
                go_big_quiet_op
                refine hK _ ?_
                clear hK K
                refine QW.want (by kernel_rfl) (fun K hK => ?_)
                go_big_quiet_op
                refine hK _ ?_
                clear hK K
                refine QW.want (by kernel_rfl) (fun K hK => ?_)
                go_big_quiet_op
                refine hK _ ?_
                clear hK K
                refine QW.want (by kernel_rfl) (fun K hK => ?_)
                go_big_quiet_op
                refine ⟨_, fun _ => cX _ _, hK _ ?_⟩
                clear hK K
                refine QW.want (by kernel_rfl) (fun K hK => ?_)
                go_big_quiet_op
                refine hK _ ?_
                clear hK K
                refine QW.want (by kernel_rfl) (fun K hK => ?_)
                go_big_quiet_op
                refine hK _ ?_
                clear hK K
                refine QW.want (by kernel_rfl) (fun K hK => ?_)
                go_big_quiet_op
                refine hK _ ?_
                clear hK K
                refine QW.want (by kernel_rfl) (fun K hK => ?_)
                go_big_quiet_op
                refine hK _ ?_
                clear hK K
                refine QW.want (by kernel_rfl) (fun K hK => ?_)
                go_big_quiet_op
                refine hK _ ?_
                clear hK K
                refine QW.want (by kernel_rfl) (fun K hK => ?_)
                go_big_quiet_op
                refine hK _ ?_
                clear hK K
                refine QW.want (by kernel_rfl) (fun K hK => ?_)
                go_big_quiet_op
                refine hK _ ?_
                clear hK K
                refine QW.want (by kernel_rfl) (fun K hK => ?_)
                go_big_quiet_op
                refine hK _ ?_
                clear hK K
                refine QW.want (by kernel_rfl) (fun K hK => ?_)
                go_big_quiet_op
                refine hK _ ?_
                clear hK K
                refine QW.want (by kernel_rfl) (fun K hK => ?_)
                go_big_quiet_op
                refine hK _ ?_
                clear hK K
                refine QW.want (by kernel_rfl) (fun K hK => ?_)
                go_big_quiet_op
                refine hK _ ?_
                clear hK K
                refine QW.want (by kernel_rfl) (fun K hK => ?_)
                go_big_quiet_op
                refine hK _ ?_
                clear hK K
                refine QW.want (by kernel_rfl) (fun K hK => ?_)
                go_big_quiet_op
                refine hK _ ?_
                clear hK K
                refine QW.want (by kernel_rfl) (fun K hK => ?_)
                go_big_quiet_op
                refine hK _ ?_
                clear hK K
                refine QW.want (by kernel_rfl) (fun K hK => ?_)
                go_big_quiet_op
                refine hK _ ?_
                clear hK K
                refine QW.want (by kernel_rfl) (fun K hK => ?_)
                go_big_quiet_op
                refine hK _ ?_
                clear hK K
                refine QW.want (by kernel_rfl) (fun K hK => ?_)
                go_big_quiet_op
                refine hK _ ?_
                clear hK K
                refine QW.want (by kernel_rfl) (fun K hK => ?_)
                go_big_quiet_op
                refine hK _ ?_
                clear hK K
                refine QW.want (by kernel_rfl) (fun K hK => ?_)
                go_big_quiet_op
                refine hK _ ?_
                clear hK K
                refine QW.want (by kernel_rfl) (fun K hK => ?_)
                go_big_quiet_op
                refine hK _ ?_
                clear hK K
                refine QW.want (by kernel_rfl) (fun K hK => ?_)
                go_big_quiet_op
                refine hK _ ?_
                clear hK K
                refine QW.want (by kernel_rfl) (fun K hK => ?_)
                go_big_quiet_op
                refine hK _ ?_
                clear hK K
                refine QW.want (by kernel_rfl) (fun K hK => ?_)
                go_big_quiet_op
                refine hK _ ?_
                clear hK K
                refine QW.want (by kernel_rfl) (fun K hK => ?_)
                go_big_quiet_op
                refine hK _ ?_
                clear hK K
                refine QW.want (by kernel_rfl) (fun K hK => ?_)
                go_big_quiet_op
                refine ⟨_, fun _ => cY _ _, hK _ ?_⟩
                clear hK K
                refine QW.want (by kernel_rfl) (fun K hK => ?_)
                go_big_quiet_op
                refine hK _ ?_
                clear hK K
                refine QW.want (by kernel_rfl) (fun K hK => ?_)
                go_big_quiet_op
                refine hK _ ?_
                clear hK K
                refine QW.want (by kernel_rfl) (fun K hK => ?_)
                go_big_quiet_op
                refine hK _ ?_
                clear hK K
                refine QW.nil ?_
                intro _ hw'
                obtain ⟨⟨dq, osq⟩, hw''⟩ := hw'
                subst hw''
                have hbq := below_regrown wr dq osq
                have hBq := hBr.trans (hbq.mono hBr.size)
                have HLWq : Hid (LegW A g n F (x, y) (x', y') (grow (redrawn wr dq) osq)) := HLWr.out.below hbq hsr hgr
                have hsq := Nat.le_trans hsr hbq.size
                have hgq := Nat.lt_of_lt_of_le hgr hbq.size
                clear g0 g1 g2 g3 k0 k1 k2 k3 cM cX cY HLWr hbq hBr hsr hgr
                generalize grow (redrawn wr dq) osq = w9 at *
                go_wp2
                go_roundw
                case rel => exact ⟨k + 1, by omega, by omega, by go_num, hBq, HLWq.out, hsq, hgq⟩
                case measure => simp [intOf]; omega
              · clear hLWr
                go_wp2
                go_ret
                exact ⟨rfl, hBr⟩

theorem law_legs (ao : Option Addr) (len cap : Nat) (w : World) (hc : Code8 w ao len cap) :
    Calls Try.prog 3 #[.slice ao len cap] w fun e w' => e = .returned (.bool true) ∧ Below w.heap.size w w' := by
  by_cases h : 1048576 < len
  · exact law_long ao len cap w h
  · exact law_short ao len cap w hc h

end Leg
end Go.Proofs.Ytcamggfmaphcbaa
