/- DERIVED. spec.SkyLeg from the lesser cell: its walk (written by wip/tools/mk_ls1.py). -/
import Derived.Test.YtcamggfmaphcbaaLs0
import Derived.Test.YtcamggfmaphcbaaAp0
import Derived.Test.YtcamggfmaphcbaaLg3
namespace Go.Proofs.Ytcamggfmaphcbaa
namespace Leg
open Go.RowKit
set_option linter.unusedSimpArgs false
set_option linter.unusedVariables false

theorem near_zero (n f t : Int) (hn : 0 ≤ n) : nearOf n f t 0 = f := by
  unfold nearOf
  split
  · rfl
  · rename_i h
    have e : 2 * (f * n + (t - f) * 0) + n = n + f * (2 * n) := by
      rw [Int.mul_zero, Int.add_zero, Int.add_comm, Int.mul_left_comm]
    rw [e, Int.add_mul_ediv_right n f (by omega), Int.ediv_eq_zero_of_lt hn (by omega)]
    omega
theorem near_part (n f t k : Int) (hn : 1 ≤ n) : nearOf n f t k = f + partOf (t - f) k n := by
  unfold nearOf partOf
  rw [if_neg (by omega)]
  have e : 2 * (f * n + (t - f) * k) + n = (2 * k * (t - f) + n) + f * (2 * n) := by
    have e1 : 2 * (f * n + (t - f) * k) = 2 * (f * n) + 2 * ((t - f) * k) := Int.mul_add ..
    have e2 : 2 * k * (t - f) = 2 * ((t - f) * k) := by rw [Int.mul_assoc, Int.mul_comm k]
    have e3 : f * (2 * n) = 2 * (f * n) := Int.mul_left_comm ..
    omega
  rw [e, Int.add_mul_ediv_right _ f (by omega)]
  omega
theorem near_in (n f t k : Int) (hf : 0 ≤ f ∧ f ≤ 15) (ht : 0 ≤ t ∧ t ≤ 15) (hn : 1 ≤ n ∧ n ≤ 15) (hk : 0 ≤ k ∧ k ≤ n) : -20 ≤ partOf (t - f) k n ∧ partOf (t - f) k n ≤ 20 := by
  unfold partOf
  have p1 : 2 * k * (t - f) ≤ 2 * n * 15 := by
    rcases Int.lt_or_le (t - f) 0 with h | h
    · have h1 := Int.mul_le_mul_of_nonneg_left (Int.le_of_lt h) (by omega : 0 ≤ 2 * k)
      omega
    · have h1 := Int.mul_le_mul (by omega : 2 * k ≤ 2 * n) (by omega : t - f ≤ 15) h (by omega)
      omega
  have p2 : -(2 * n * 15) ≤ 2 * k * (t - f) := by
    rcases Int.lt_or_le (t - f) 0 with h | h
    · have h1 := Int.mul_le_mul (by omega : 2 * k ≤ 2 * n) (by omega : -(t - f) ≤ 15) (by omega) (by omega)
      rw [Int.mul_neg] at h1
      omega
    · have h1 := Int.mul_nonneg (by omega : 0 ≤ 2 * k) h
      omega
  constructor
  · exact Int.le_ediv_of_mul_le (by omega) (by omega)
  · exact Int.le_of_lt_add_one (Int.ediv_lt_of_lt_mul (by omega) (by omega))

/-- The two boxes of cells. -/
def BoxL (b : Nat) (p q : DCell) (W : World) : Prop :=
  W.cell? ⟨b, 0, none⟩ = some (.int .i64 p.1) ∧ W.cell? ⟨b, 1, none⟩ = some (.int .i64 p.2) ∧ W.cell? ⟨b + 1, 0, none⟩ = some (.int .i64 q.1) ∧ W.cell? ⟨b + 1, 1, none⟩ = some (.int .i64 q.2)
theorem BoxL.below {b n : Nat} {p q : DCell} {w w' : World} (h : BoxL b p q w) (hb : Below n w w') (hn : b + 2 ≤ n) : BoxL b p q w' := by
  obtain ⟨h0, h1, h2, h3⟩ := h
  exact ⟨(hb.cell (p := ⟨b, 0, none⟩) (by show b < n; omega)).trans h0, (hb.cell (p := ⟨b, 1, none⟩) (by show b < n; omega)).trans h1, (hb.cell (p := ⟨b + 1, 0, none⟩) (by show b + 1 < n; omega)).trans h2, (hb.cell (p := ⟨b + 1, 1, none⟩) (by show b + 1 < n; omega)).trans h3⟩

theorem empty_cells (w : World) (e : TypeId) (B : Nat) (hB : B ≤ w.heap.size) : (w.alloc (.cells #[] e)).ownsRow B e 2 (.slice (some ⟨w.heap.size, 0, none⟩) 0 0) 0 [] :=
  World.ownsRow_made w #[] 0 hB (Nat.zero_le _) rfl
theorem mixedS : Try.prog.follows .mixedOrders = true := by kernel_rfl

set_option maxHeartbeats 4000000 in
set_option maxRecDepth 100000 in
theorem sUp (a b : DCell) (w : World) (ha : InLeg a) (hb : InLeg b) (hl : Lesser a b) :
    Calls Try.prog 8 #[vCe a, vCe b] w fun e w' => ∃ v, e = .returned v ∧ w'.ownsRow w.heap.size 24 2 v (legUp a b).length (cellVals (legUp a b)) ∧ Below w.heap.size w w' := by
  have hs := steps_le ha hb
  obtain ⟨N, hN⟩ : ∃ N : Nat, stepsOf a b = (N : Int) := ⟨(stepsOf a b).toNat, by omega⟩
  have HA := fun W => sInside a W
  have HB := fun W => sInside b W
  have HS := fun W => sSteps a b W ha hb
  rw [decide_eq_true ha] at HA
  rw [decide_eq_true hb] at HB
  have e0 : legUp a b = (List.range (N + 1)).map fun (j : Nat) => cellOf (N : Int) a b (j : Int) := by unfold legUp; rw [hN]; rfl
  rw [hN] at HS
  rw [e0, List.length_map, List.length_range]
  have hN15 : N ≤ 15 := by omega
  obtain ⟨i0, hi, hz0, hz1, hz2⟩ := info_parts infoCell
  obtain ⟨x, y⟩ := a
  obtain ⟨x', y'⟩ := b
  have HZ : Hid (cellOf (N : Int) (x, y) (x', y') ((0 : Nat) : Int) = (x, y)) := by
    show _ = _
    unfold cellOf
    rw [show (((0 : Nat) : Int)) = 0 from rfl, near_zero _ _ _ (by omega), near_zero _ _ _ (by omega)]
  have HPX : Hid (∀ k : Int, 0 ≤ k ∧ k ≤ (N : Int) → 1 ≤ N → ∀ W, Calls Try.prog 22 #[.int .i64 (x' - x), .int .i64 k, .int .i64 (N : Int)] W fun e w' => e = .returned (.int .i64 (partOf (x' - x) k (N : Int))) ∧ W = w') := fun k hk h1 W => sPart _ _ _ W ⟨by have := ha.1; have := hb.1; omega, by have := ha.1; have := hb.1; omega⟩ ⟨by omega, by omega⟩ hk
  have HPY : Hid (∀ k : Int, 0 ≤ k ∧ k ≤ (N : Int) → 1 ≤ N → ∀ W, Calls Try.prog 22 #[.int .i64 (y' - y), .int .i64 k, .int .i64 (N : Int)] W fun e w' => e = .returned (.int .i64 (partOf (y' - y) k (N : Int))) ∧ W = w') := fun k hk h1 W => sPart _ _ _ W ⟨by have := ha.2; have := hb.2; omega, by have := ha.2; have := hb.2; omega⟩ ⟨by omega, by omega⟩ hk
  have HC : Hid (∀ k : Int, 0 ≤ k ∧ k ≤ (N : Int) → 1 ≤ N → cellOf (N : Int) (x, y) (x', y') k = (x + partOf (x' - x) k (N : Int), y + partOf (y' - y) k (N : Int)) ∧ (-20 ≤ partOf (x' - x) k (N : Int) ∧ partOf (x' - x) k (N : Int) ≤ 20) ∧ (-20 ≤ partOf (y' - y) k (N : Int) ∧ partOf (y' - y) k (N : Int) ≤ 20)) := fun k hk h1 => ⟨by unfold cellOf; rw [near_part _ _ _ _ (by omega), near_part _ _ _ _ (by omega)], near_in _ _ _ _ ha.1 hb.1 ⟨by omega, by omega⟩ hk, near_in _ _ _ _ ha.2 hb.2 ⟨by omega, by omega⟩ hk⟩
  have hl1 : ¬ x' < x := by rcases hl with h | h <;> simp at h <;> omega
  have hl2 : x' = x → y ≤ y' := fun e => by rcases hl with h | h <;> simp at h <;> omega
  obtain ⟨⟨hx1, hx2⟩, hy1, hy2⟩ := ha
  obtain ⟨⟨hx3, hx4⟩, hy3, hy4⟩ := hb
  simp only at hx1 hx2 hx3 hx4 hy1 hy2 hy3 hy4
  simp only [vCe] at HA HB HS ⊢
  clear hs hN e0 hl
  generalize hgl : (fun (j : Nat) => cellOf (N : Int) (x, y) (x', y') (j : Int)) = gl
  have HG : Hid (∀ j : Nat, gl j = cellOf (N : Int) (x, y) (x', y') (j : Int)) := fun j => by rw [← hgl]
  clear hgl
  have HL0 : BoxL w.heap.size (x, y) (x', y') (((w.alloc (.cells #[.int .i64 x, .int .i64 y] 24)).alloc (.cells #[.int .i64 x', .int .i64 y'] 24)).alloc (.cells #[] 24)) := ⟨by go_simp, by go_simp, by go_simp, by go_simp⟩
  go_enter Try.func8, Try.ntmps8
  go_wp2_with fail
  refine (HA _).mono ?_
  rintro e w1 ⟨rfl, hb1⟩
  clear HA
  obtain ⟨bc1, bf1⟩ := bcell hb1
  have z1 := hb1.size
  simp at z1 bc1 bf1
  have y10 : w.heap.size < w1.heap.size := by omega
  have y11 : w.heap.size + 1 < w1.heap.size := by omega
  go_wp2_with fail
  refine (HB _).mono ?_
  rintro e w2 ⟨rfl, hb2⟩
  clear HB
  have hB2 : Below w.heap.size w w2 := (((((Below.refl w.heap.size w).alloc (Nat.le_refl _) _).alloc (by simp) _).alloc (by simp; omega) _).trans (hb1.mono (by simp; omega))).trans (hb2.mono (by omega))
  have hO2 : w2.ownsRow (w.heap.size + 2) 24 2 (.slice (some ⟨w.heap.size + 1 + 1, 0, none⟩) 0 0) 0 [] := by
    have h := empty_cells ((w.alloc (.cells #[.int .i64 x, .int .i64 y] 24)).alloc (.cells #[.int .i64 x', .int .i64 y'] 24)) 24 (w.heap.size + 2) (by simp)
    simp only [World.size_alloc] at h
    exact (h.kept (grown_of_below hb1) (.inr (by simp [Value.ownBlock]))).kept (grown_of_below hb2) (.inr (by simp [Value.ownBlock]))
  have HL2 := (HL0.below hb1 (by simp)).below hb2 (by omega)
  clear HL0
  obtain ⟨bc2, bf2⟩ := bcell hb2
  have z2 := hb2.size
  have y20 : w.heap.size < w2.heap.size := by omega
  have y21 : w.heap.size + 1 < w2.heap.size := by omega
  have hor : ((x' == x) = false) ∨ ((x' == x) = true ∧ y ≤ y') := by
    by_cases e : x' = x
    · exact .inr ⟨by simp [e], hl2 e⟩
    · exact .inl (by simp [e])
  clear hl2
  rcases hor with hxb | ⟨hxb, hyl⟩
  · go_wp2_with fail
    refine (HS _).mono ?_
    rintro e w3 ⟨rfl, hb3⟩
    have hB3 := hB2.trans (hb3.mono (by omega))
    have hO3 := hO2.kept (grown_of_below hb3) (.inr (by simp [Value.ownBlock]))
    have z3 := hb3.size
    have HL3 := HL2.below hb3 (by omega)
    have a0 := HL3.1
    have a1 := HL3.2.1
    clear HS bc1 bf1 bc2 bf2 hb1 hb2 hb3 z1 y10 y11 hB2 hO2 HL2
    go_wp2_with (at_builtin; refine wpList_append_own _ rfl _ _ 27 rfl (w.heap.size + 2) 24 i0 (.agg #[.int .i64 0, .int .i64 0]) 2 16 Try.underlying27 hi hz0 hz1 hz2 rfl (by decide) _ _ _ rfl (hO3.alloc _) ⟨w3.heap.size, 0, none⟩ 1 1 [.int .i64 x, .int .i64 y] rfl rfl ?c1 ?c2 ?c3 ?c4 ?c5 ?_)
    case c1 =>
      intro j u hj
      match j, hj with
      | 0, hj => simp at hj; subst hj; simp [Addr.add]
      | 1, hj => simp at hj; subst hj; simp [Addr.add]
    case c2 =>
      intro u hu
      simp at hu
      rcases hu with rfl | rfl <;> rfl
    case c3 => unfold maxLen; omega
    case c4 => omega
    case c5 => simp; omega
    intro v' w4 hown' hgrow _
    obtain ⟨g', cap', rfl⟩ := ownsRow_succ hown'
    have hB4a : Below (w.heap.size + 2) w3 w4 := ((Below.refl _ w3).alloc (by omega) _).grown hgrow (by simp; omega) (by intro k hk; simp [Value.ownBlock] at hk; omega)
    have hB4 := hB3.trans (hB4a.mono (by omega))
    have HL4 := HL3.below hB4a (Nat.le_refl _)
    have z4 := hB4a.size
    clear hB4a hB3 HL3 hgrow a0 a1 hO3
    go_wp2_with fail
    go_loopw [5, 9] (fun v i wr => ∃ j g cap : Nat, 1 ≤ j ∧ j ≤ N + 1 ∧ i = .int .i64 j ∧ v = .slice (some ⟨g, 0, none⟩) j cap ∧ wr.ownsRow (w.heap.size + 2) 24 2 (.slice (some ⟨g, 0, none⟩) j cap) j (cellVals ((List.range j).map gl)) ∧ BoxL w.heap.size (x, y) (x', y') wr ∧ Below w.heap.size w wr ∧ w.heap.size + 2 ≤ wr.heap.size) (fun _ i _ => N + 1 - (intOf i).toNat)
    case atStart => exact ⟨1, g', cap', by omega, by omega, rfl, rfl, by
      have e : cellVals ((List.range 1).map gl) = [.int .i64 x, .int .i64 y] := by
        rw [show List.range 1 = [0] from rfl, List.map_cons, List.map_nil, HG.out, HZ.out]
        rfl
      rw [e]
      simpa using hown', HL4, hB4, by omega⟩
    case round =>
      obtain ⟨j, g, cap, hj1, hj2, rfl, rfl, hown, HC0, hB, hsz⟩ := hrel
      by_cases hlt : j ≤ N
      · have hltI : (j : Int) ≤ (N : Int) := by omega
        have PX := HPX.out (j : Int) ⟨by omega, by omega⟩ (by omega)
        have PY := HPY.out (j : Int) ⟨by omega, by omega⟩ (by omega)
        obtain ⟨HCe, ⟨hp1, hp2⟩, hq1, hq2⟩ := HC.out (j : Int) ⟨by omega, by omega⟩ (by omega)
        have HCe' : Hid (gl j = (x + partOf (x' - x) (j : Int) (N : Int), y + partOf (y' - y) (j : Int) (N : Int))) := by
          show _ = _
          rw [HG.out]
          exact HCe
        clear HCe
        generalize partOf (x' - x) (j : Int) (N : Int) = px at *
        generalize partOf (y' - y) (j : Int) (N : Int) = py at *
        have hw1 : IntKind.i64.wrap (x' - x) = x' - x := by rw [IntKind.wrap_i64]; all_goals omega
        have hw2 : IntKind.i64.wrap (y' - y) = y' - y := by rw [IntKind.wrap_i64]; all_goals omega
        have hw3 : IntKind.i64.wrap (x + px) = x + px := by rw [IntKind.wrap_i64]; all_goals omega
        have hw4 : IntKind.i64.wrap (y + py) = y + py := by rw [IntKind.wrap_i64]; all_goals omega
        go_wp2_with fail
        refine wp_region_RC (BoxL w.heap.size (x, y) (x', y')) mixedS ?_
        have HC1 : BoxL w.heap.size (x, y) (x', y') wr.drew := HC0.below ((Below.refl (w.heap.size + 2) wr).drew) (Nat.le_refl _)
        refine RC.take (i := 0) (v := ?va0) rfl (by kernel_rfl) (by kernel_rfl) (by kernel_rfl) (fun _ _ _ h => h) HC1 (by rfl) ?ya0 ?ra0
        case ya0 => (intro W hW; obtain ⟨c0, c1, c2, c3⟩ := hW; go_simp; try with_reducible rfl)
        refine RC.take (i := 1) (v := ?va1) rfl (by kernel_rfl) (by kernel_rfl) (by kernel_rfl) (fun _ _ _ h => h) HC1 (by rfl) ?ya1 ?ra1
        case ya1 => (intro W hW; obtain ⟨c0, c1, c2, c3⟩ := hW; go_simp; try with_reducible rfl)
        refine RC.take (i := 2) (v := ?va2) rfl (by kernel_rfl) (by kernel_rfl) (by kernel_rfl) (fun _ _ _ h => h) HC1 (by rfl) ?ya2 ?ra2
        case ya2 => (intro W hW; obtain ⟨c0, c1, c2, c3⟩ := hW; go_simp; try with_reducible rfl)
        refine RC.take (i := 3) (v := ?va3) rfl (by kernel_rfl) (by kernel_rfl) (by kernel_rfl) (fun _ _ _ h => h) HC1 (by rfl) ?ya3 ?ra3
        case ya3 => (intro W hW; obtain ⟨c0, c1, c2, c3⟩ := hW; go_simp; try with_reducible rfl)
        refine RC.take (i := 4) (v := ?va4) rfl (by kernel_rfl) (by kernel_rfl) (by kernel_rfl) (fun _ _ _ h => h) HC1 (by rfl) ?ya4 ?ra4
        case ya4 => (intro W hW; obtain ⟨c0, c1, c2, c3⟩ := hW; go_simp; try with_reducible rfl)
        refine RC.take (i := 5) (v := ?va5) rfl (by kernel_rfl) (by kernel_rfl) (by kernel_rfl) (fun _ _ _ h => h) HC1 (by rfl) ?ya5 ?ra5
        case ya5 => (intro W hW; obtain ⟨c0, c1, c2, c3⟩ := hW; go_simp; try with_reducible rfl)
        refine RC.take (i := 6) (v := ?va6) rfl (by kernel_rfl) (by kernel_rfl) (by kernel_rfl) (fun _ _ _ h => h) HC1 (by rfl) ?ya6 ?ra6
        case ya6 => (intro W hW; obtain ⟨c0, c1, c2, c3⟩ := hW; go_simp; try with_reducible rfl)
        refine RC.take (i := 7) (v := ?va7) rfl (by kernel_rfl) (by kernel_rfl) (by kernel_rfl) (fun _ _ _ h => h) HC1 (by rfl) ?ya7 ?ra7
        case ya7 => (intro W hW; obtain ⟨c0, c1, c2, c3⟩ := hW; go_simp; try with_reducible rfl)
        refine RC.take (i := 8) (v := ?va8) rfl (by kernel_rfl) (by kernel_rfl) (by kernel_rfl) (fun _ _ _ h => h) HC1 (by rfl) ?ya8 ?ra8
        case ya8 => (intro W hW; obtain ⟨c0, c1, c2, c3⟩ := hW; go_simp; try with_reducible rfl)
        refine RC.take (i := 9) (v := ?va9) rfl (by kernel_rfl) (by kernel_rfl) (by kernel_rfl) (fun _ _ _ h => h) HC1 (by rfl) ?ya9 ?ra9
        case ya9 => (intro W hW; obtain ⟨c0, c1, c2, c3⟩ := hW; go_simp; try with_reducible rfl)
        refine RC.take (i := 12) (v := ?va12) rfl (by kernel_rfl) (by kernel_rfl) (by kernel_rfl) (fun _ _ _ h => h) HC1 (by rfl) ?ya12 ?ra12
        case ya12 => (intro W hW; obtain ⟨c0, c1, c2, c3⟩ := hW; go_simp; try with_reducible rfl)
        refine RC.take (i := 13) (v := ?va13) rfl (by kernel_rfl) (by kernel_rfl) (by kernel_rfl) (fun _ _ _ h => h) HC1 (by rfl) ?ya13 ?ra13
        case ya13 => (intro W hW; obtain ⟨c0, c1, c2, c3⟩ := hW; go_simp; try with_reducible rfl)
        refine RC.take (i := 14) (v := ?va14) rfl (by kernel_rfl) (by kernel_rfl) (by kernel_rfl) (fun _ _ _ h => h) HC1 (by rfl) ?ya14 ?ra14
        case ya14 => (intro W hW; obtain ⟨c0, c1, c2, c3⟩ := hW; go_simp; try with_reducible rfl)
        refine RC.take (i := 15) (v := ?va15) rfl (by kernel_rfl) (by kernel_rfl) (by kernel_rfl) (fun _ _ _ h => h) HC1 (by rfl) ?ya15 ?ra15
        case ya15 => (intro W hW; obtain ⟨c0, c1, c2, c3⟩ := hW; go_simp; try with_reducible rfl)
        refine RC.take (i := 16) (v := ?va16) rfl (by kernel_rfl) (by kernel_rfl) (by kernel_rfl) (fun _ _ _ h => h) HC1 (by rfl) ?ya16 ?ra16
        case ya16 => (intro W hW; obtain ⟨c0, c1, c2, c3⟩ := hW; go_simp; try with_reducible rfl)
        refine RC.take (i := 17) (v := ?va17) rfl (by kernel_rfl) (by kernel_rfl) (by kernel_rfl) (fun _ _ _ h => h) HC1 (by rfl) ?ya17 ?ra17
        case ya17 => (intro W hW; obtain ⟨c0, c1, c2, c3⟩ := hW; go_simp; try with_reducible rfl)
        refine RC.take (i := 18) (v := ?va18) rfl (by kernel_rfl) (by kernel_rfl) (by kernel_rfl) (fun _ _ _ h => h) HC1 (by rfl) ?ya18 ?ra18
        case ya18 => (intro W hW; obtain ⟨c0, c1, c2, c3⟩ := hW; go_simp; try with_reducible rfl)
        refine RC.take (i := 19) (v := ?va19) rfl (by kernel_rfl) (by kernel_rfl) (by kernel_rfl) (fun _ _ _ h => h) HC1 (by rfl) ?ya19 ?ra19
        case ya19 => (intro W hW; obtain ⟨c0, c1, c2, c3⟩ := hW; go_simp; try with_reducible rfl)
        refine RC.take (i := 20) (v := ?va20) rfl (by kernel_rfl) (by kernel_rfl) (by kernel_rfl) (fun _ _ _ h => h) HC1 (by rfl) ?ya20 ?ra20
        case ya20 => (intro W hW; obtain ⟨c0, c1, c2, c3⟩ := hW; go_simp; try with_reducible rfl)
        refine RC.want (i := 10) (by kernel_rfl) rfl (by rfl) (fun K hK => ?_)
        go_simp
        refine (PX _).mono ?_
        rintro e w5 ⟨rfl, rfl⟩
        simp only
        refine hK _ _ HC1 ?_
        clear hK K
        refine RC.take (i := 11) (v := ?va11) rfl (by kernel_rfl) (by kernel_rfl) (by kernel_rfl) (fun _ _ _ h => h) HC1 (by rfl) ?ya11 ?ra11
        case ya11 => (intro W hW; obtain ⟨c0, c1, c2, c3⟩ := hW; go_simp; try with_reducible rfl)
        refine RC.want (i := 21) (by kernel_rfl) rfl (by rfl) (fun K hK => ?_)
        go_simp
        refine (PY _).mono ?_
        rintro e w5 ⟨rfl, rfl⟩
        simp only
        refine hK _ _ HC1 ?_
        clear hK K
        refine RC.take (i := 22) (v := ?va22) rfl (by kernel_rfl) (by kernel_rfl) (by kernel_rfl) (fun _ _ _ h => h) HC1 (by rfl) ?ya22 ?ra22
        case ya22 => (intro W hW; obtain ⟨c0, c1, c2, c3⟩ := hW; go_simp; try with_reducible rfl)
        refine RC.take (i := 23) (v := ?va23) rfl (by kernel_rfl) (by kernel_rfl) (by kernel_rfl) (fun _ _ _ h => h) HC1 (by rfl) ?ya23 ?ra23
        case ya23 => (intro W hW; obtain ⟨c0, c1, c2, c3⟩ := hW; go_simp; try with_reducible rfl)
        refine RC.want (i := 24) (by kernel_rfl) rfl (by rfl) (fun K hK => ?_)
        go_simp
        have HC2 : BoxL w.heap.size (x, y) (x', y') (wr.alloc (.cells #[.int .i64 (x + px), .int .i64 (y + py)] 24)).drew := HC0.below (n := w.heap.size + 2) ((Below.refl _ _).alloc hsz _).drew (Nat.le_refl _)
        refine hK _ _ HC2 ?_
        clear hK K
        refine RC.want (i := 25) (by kernel_rfl) rfl (by rfl) (fun K hK => ?_)
        refine wpOp_append _ _ _ 27 rfl (w.heap.size + 2) 24 i0 (.agg #[.int .i64 0, .int .i64 0]) 2 16 Try.underlying27 hi hz0 hz1 hz2 rfl (by decide) (.slice (some ⟨g, 0, none⟩) j cap) j _ rfl (hown.alloc _).drew ⟨wr.heap.size, 0, none⟩ 1 1 [.int .i64 (x + px), .int .i64 (y + py)] rfl rfl (fun j u hj => by
            match j, hj with
            | 0, hj => simp at hj; subst hj; simp [Addr.add]
            | 1, hj => simp at hj; subst hj; simp [Addr.add]) (fun u hu => by
            simp at hu
            rcases hu with rfl | rfl <;> rfl) (by unfold maxLen; omega) (by omega) (by simp; omega) ?_
        intro v' w6 hown' hgrow _
        obtain ⟨g', cap', rfl⟩ := ownsRow_succ hown'
        have hB6 : Below (w.heap.size + 2) wr w6 := (((Below.refl _ wr).alloc hsz _).drew).grown hgrow (by simp; omega) (by
          intro k hk
          simp [Value.ownBlock] at hk
          rcases hown.2 with ⟨h, _⟩ | ⟨g0, _, _, h, hg0, _⟩
          · cases h
          · cases h; omega)
        refine hK _ _ (HC0.below hB6 (Nat.le_refl _)) ?_
        clear hK K
        refine RC.take (i := 26) (v := ?va26) rfl (by kernel_rfl) (by kernel_rfl) (by kernel_rfl) (fun _ _ _ h => h) (HC0.below hB6 (Nat.le_refl _)) (by rfl) ?ya26 ?ra26
        case ya26 => (intro W hW; obtain ⟨c0, c1, c2, c3⟩ := hW; go_simp; try with_reducible rfl)
        refine RC.done (by kernel_rfl) ?_
        have z6 := hB6.size
        have HO6 : w6.ownsRow (w.heap.size + 2) 24 2 (.slice (some ⟨g', 0, none⟩) (j + 1) cap') (j + 1) (cellVals ((List.range (j + 1)).map gl)) := by
          rw [List.range_succ, List.map_append, List.map_cons, List.map_nil, cellVals_snoc, HCe'.out]
          exact hown'
        have HB6 := HC0.below hB6 (Nat.le_refl _)
        have hB7 := hB.trans (hB6.mono (by omega))
        clear hown' hgrow hB6 hown HC0 HC1 HC2 hw1 hw2 hw3 hw4
        go_wp2
        refine ⟨?_, ?measure⟩
        (repeat apply Exists.intro)
        refine ⟨?rel, rfl⟩
        case rel => exact ⟨j + 1, g', cap', by omega, by omega, by go_num, rfl, HO6, HB6, hB7, by omega⟩
        case measure => simp [intOf]; omega
      · have hje : j = N + 1 := by omega
        subst hje
        have hltI : ¬ ((N + 1 : Nat) : Int) ≤ (N : Int) := by omega
        have HFin := ownsRow_base hown (show w.heap.size ≤ w.heap.size + 2 by omega)
        rw [List.range_succ, List.map_append, List.map_cons, List.map_nil] at HFin
        have HF2 : Hid _ := HFin
        clear hown HFin
        go_wp2
        go_ret
        exact ⟨.slice (some ⟨g, 0, none⟩) (N + 1) cap, rfl, HF2.out, hB⟩
  · go_wp2_with fail
    refine (HS _).mono ?_
    rintro e w3 ⟨rfl, hb3⟩
    have hB3 := hB2.trans (hb3.mono (by omega))
    have hO3 := hO2.kept (grown_of_below hb3) (.inr (by simp [Value.ownBlock]))
    have z3 := hb3.size
    have HL3 := HL2.below hb3 (by omega)
    have a0 := HL3.1
    have a1 := HL3.2.1
    clear HS bc1 bf1 bc2 bf2 hb1 hb2 hb3 z1 y10 y11 hB2 hO2 HL2
    go_wp2_with (at_builtin; refine wpList_append_own _ rfl _ _ 27 rfl (w.heap.size + 2) 24 i0 (.agg #[.int .i64 0, .int .i64 0]) 2 16 Try.underlying27 hi hz0 hz1 hz2 rfl (by decide) _ _ _ rfl (hO3.alloc _) ⟨w3.heap.size, 0, none⟩ 1 1 [.int .i64 x, .int .i64 y] rfl rfl ?c1 ?c2 ?c3 ?c4 ?c5 ?_)
    case c1 =>
      intro j u hj
      match j, hj with
      | 0, hj => simp at hj; subst hj; simp [Addr.add]
      | 1, hj => simp at hj; subst hj; simp [Addr.add]
    case c2 =>
      intro u hu
      simp at hu
      rcases hu with rfl | rfl <;> rfl
    case c3 => unfold maxLen; omega
    case c4 => omega
    case c5 => simp; omega
    intro v' w4 hown' hgrow _
    obtain ⟨g', cap', rfl⟩ := ownsRow_succ hown'
    have hB4a : Below (w.heap.size + 2) w3 w4 := ((Below.refl _ w3).alloc (by omega) _).grown hgrow (by simp; omega) (by intro k hk; simp [Value.ownBlock] at hk; omega)
    have hB4 := hB3.trans (hB4a.mono (by omega))
    have HL4 := HL3.below hB4a (Nat.le_refl _)
    have z4 := hB4a.size
    clear hB4a hB3 HL3 hgrow a0 a1 hO3
    go_wp2_with fail
    go_loopw [5, 9] (fun v i wr => ∃ j g cap : Nat, 1 ≤ j ∧ j ≤ N + 1 ∧ i = .int .i64 j ∧ v = .slice (some ⟨g, 0, none⟩) j cap ∧ wr.ownsRow (w.heap.size + 2) 24 2 (.slice (some ⟨g, 0, none⟩) j cap) j (cellVals ((List.range j).map gl)) ∧ BoxL w.heap.size (x, y) (x', y') wr ∧ Below w.heap.size w wr ∧ w.heap.size + 2 ≤ wr.heap.size) (fun _ i _ => N + 1 - (intOf i).toNat)
    case atStart => exact ⟨1, g', cap', by omega, by omega, rfl, rfl, by
      have e : cellVals ((List.range 1).map gl) = [.int .i64 x, .int .i64 y] := by
        rw [show List.range 1 = [0] from rfl, List.map_cons, List.map_nil, HG.out, HZ.out]
        rfl
      rw [e]
      simpa using hown', HL4, hB4, by omega⟩
    case round =>
      obtain ⟨j, g, cap, hj1, hj2, rfl, rfl, hown, HC0, hB, hsz⟩ := hrel
      by_cases hlt : j ≤ N
      · have hltI : (j : Int) ≤ (N : Int) := by omega
        have PX := HPX.out (j : Int) ⟨by omega, by omega⟩ (by omega)
        have PY := HPY.out (j : Int) ⟨by omega, by omega⟩ (by omega)
        obtain ⟨HCe, ⟨hp1, hp2⟩, hq1, hq2⟩ := HC.out (j : Int) ⟨by omega, by omega⟩ (by omega)
        have HCe' : Hid (gl j = (x + partOf (x' - x) (j : Int) (N : Int), y + partOf (y' - y) (j : Int) (N : Int))) := by
          show _ = _
          rw [HG.out]
          exact HCe
        clear HCe
        generalize partOf (x' - x) (j : Int) (N : Int) = px at *
        generalize partOf (y' - y) (j : Int) (N : Int) = py at *
        have hw1 : IntKind.i64.wrap (x' - x) = x' - x := by rw [IntKind.wrap_i64]; all_goals omega
        have hw2 : IntKind.i64.wrap (y' - y) = y' - y := by rw [IntKind.wrap_i64]; all_goals omega
        have hw3 : IntKind.i64.wrap (x + px) = x + px := by rw [IntKind.wrap_i64]; all_goals omega
        have hw4 : IntKind.i64.wrap (y + py) = y + py := by rw [IntKind.wrap_i64]; all_goals omega
        go_wp2_with fail
        refine wp_region_RC (BoxL w.heap.size (x, y) (x', y')) mixedS ?_
        have HC1 : BoxL w.heap.size (x, y) (x', y') wr.drew := HC0.below ((Below.refl (w.heap.size + 2) wr).drew) (Nat.le_refl _)
        refine RC.take (i := 0) (v := ?vb0) rfl (by kernel_rfl) (by kernel_rfl) (by kernel_rfl) (fun _ _ _ h => h) HC1 (by rfl) ?yb0 ?rb0
        case yb0 => (intro W hW; obtain ⟨c0, c1, c2, c3⟩ := hW; go_simp; try with_reducible rfl)
        refine RC.take (i := 1) (v := ?vb1) rfl (by kernel_rfl) (by kernel_rfl) (by kernel_rfl) (fun _ _ _ h => h) HC1 (by rfl) ?yb1 ?rb1
        case yb1 => (intro W hW; obtain ⟨c0, c1, c2, c3⟩ := hW; go_simp; try with_reducible rfl)
        refine RC.take (i := 2) (v := ?vb2) rfl (by kernel_rfl) (by kernel_rfl) (by kernel_rfl) (fun _ _ _ h => h) HC1 (by rfl) ?yb2 ?rb2
        case yb2 => (intro W hW; obtain ⟨c0, c1, c2, c3⟩ := hW; go_simp; try with_reducible rfl)
        refine RC.take (i := 3) (v := ?vb3) rfl (by kernel_rfl) (by kernel_rfl) (by kernel_rfl) (fun _ _ _ h => h) HC1 (by rfl) ?yb3 ?rb3
        case yb3 => (intro W hW; obtain ⟨c0, c1, c2, c3⟩ := hW; go_simp; try with_reducible rfl)
        refine RC.take (i := 4) (v := ?vb4) rfl (by kernel_rfl) (by kernel_rfl) (by kernel_rfl) (fun _ _ _ h => h) HC1 (by rfl) ?yb4 ?rb4
        case yb4 => (intro W hW; obtain ⟨c0, c1, c2, c3⟩ := hW; go_simp; try with_reducible rfl)
        refine RC.take (i := 5) (v := ?vb5) rfl (by kernel_rfl) (by kernel_rfl) (by kernel_rfl) (fun _ _ _ h => h) HC1 (by rfl) ?yb5 ?rb5
        case yb5 => (intro W hW; obtain ⟨c0, c1, c2, c3⟩ := hW; go_simp; try with_reducible rfl)
        refine RC.take (i := 6) (v := ?vb6) rfl (by kernel_rfl) (by kernel_rfl) (by kernel_rfl) (fun _ _ _ h => h) HC1 (by rfl) ?yb6 ?rb6
        case yb6 => (intro W hW; obtain ⟨c0, c1, c2, c3⟩ := hW; go_simp; try with_reducible rfl)
        refine RC.take (i := 7) (v := ?vb7) rfl (by kernel_rfl) (by kernel_rfl) (by kernel_rfl) (fun _ _ _ h => h) HC1 (by rfl) ?yb7 ?rb7
        case yb7 => (intro W hW; obtain ⟨c0, c1, c2, c3⟩ := hW; go_simp; try with_reducible rfl)
        refine RC.take (i := 8) (v := ?vb8) rfl (by kernel_rfl) (by kernel_rfl) (by kernel_rfl) (fun _ _ _ h => h) HC1 (by rfl) ?yb8 ?rb8
        case yb8 => (intro W hW; obtain ⟨c0, c1, c2, c3⟩ := hW; go_simp; try with_reducible rfl)
        refine RC.take (i := 9) (v := ?vb9) rfl (by kernel_rfl) (by kernel_rfl) (by kernel_rfl) (fun _ _ _ h => h) HC1 (by rfl) ?yb9 ?rb9
        case yb9 => (intro W hW; obtain ⟨c0, c1, c2, c3⟩ := hW; go_simp; try with_reducible rfl)
        refine RC.take (i := 12) (v := ?vb12) rfl (by kernel_rfl) (by kernel_rfl) (by kernel_rfl) (fun _ _ _ h => h) HC1 (by rfl) ?yb12 ?rb12
        case yb12 => (intro W hW; obtain ⟨c0, c1, c2, c3⟩ := hW; go_simp; try with_reducible rfl)
        refine RC.take (i := 13) (v := ?vb13) rfl (by kernel_rfl) (by kernel_rfl) (by kernel_rfl) (fun _ _ _ h => h) HC1 (by rfl) ?yb13 ?rb13
        case yb13 => (intro W hW; obtain ⟨c0, c1, c2, c3⟩ := hW; go_simp; try with_reducible rfl)
        refine RC.take (i := 14) (v := ?vb14) rfl (by kernel_rfl) (by kernel_rfl) (by kernel_rfl) (fun _ _ _ h => h) HC1 (by rfl) ?yb14 ?rb14
        case yb14 => (intro W hW; obtain ⟨c0, c1, c2, c3⟩ := hW; go_simp; try with_reducible rfl)
        refine RC.take (i := 15) (v := ?vb15) rfl (by kernel_rfl) (by kernel_rfl) (by kernel_rfl) (fun _ _ _ h => h) HC1 (by rfl) ?yb15 ?rb15
        case yb15 => (intro W hW; obtain ⟨c0, c1, c2, c3⟩ := hW; go_simp; try with_reducible rfl)
        refine RC.take (i := 16) (v := ?vb16) rfl (by kernel_rfl) (by kernel_rfl) (by kernel_rfl) (fun _ _ _ h => h) HC1 (by rfl) ?yb16 ?rb16
        case yb16 => (intro W hW; obtain ⟨c0, c1, c2, c3⟩ := hW; go_simp; try with_reducible rfl)
        refine RC.take (i := 17) (v := ?vb17) rfl (by kernel_rfl) (by kernel_rfl) (by kernel_rfl) (fun _ _ _ h => h) HC1 (by rfl) ?yb17 ?rb17
        case yb17 => (intro W hW; obtain ⟨c0, c1, c2, c3⟩ := hW; go_simp; try with_reducible rfl)
        refine RC.take (i := 18) (v := ?vb18) rfl (by kernel_rfl) (by kernel_rfl) (by kernel_rfl) (fun _ _ _ h => h) HC1 (by rfl) ?yb18 ?rb18
        case yb18 => (intro W hW; obtain ⟨c0, c1, c2, c3⟩ := hW; go_simp; try with_reducible rfl)
        refine RC.take (i := 19) (v := ?vb19) rfl (by kernel_rfl) (by kernel_rfl) (by kernel_rfl) (fun _ _ _ h => h) HC1 (by rfl) ?yb19 ?rb19
        case yb19 => (intro W hW; obtain ⟨c0, c1, c2, c3⟩ := hW; go_simp; try with_reducible rfl)
        refine RC.take (i := 20) (v := ?vb20) rfl (by kernel_rfl) (by kernel_rfl) (by kernel_rfl) (fun _ _ _ h => h) HC1 (by rfl) ?yb20 ?rb20
        case yb20 => (intro W hW; obtain ⟨c0, c1, c2, c3⟩ := hW; go_simp; try with_reducible rfl)
        refine RC.want (i := 10) (by kernel_rfl) rfl (by rfl) (fun K hK => ?_)
        go_simp
        refine (PX _).mono ?_
        rintro e w5 ⟨rfl, rfl⟩
        simp only
        refine hK _ _ HC1 ?_
        clear hK K
        refine RC.take (i := 11) (v := ?vb11) rfl (by kernel_rfl) (by kernel_rfl) (by kernel_rfl) (fun _ _ _ h => h) HC1 (by rfl) ?yb11 ?rb11
        case yb11 => (intro W hW; obtain ⟨c0, c1, c2, c3⟩ := hW; go_simp; try with_reducible rfl)
        refine RC.want (i := 21) (by kernel_rfl) rfl (by rfl) (fun K hK => ?_)
        go_simp
        refine (PY _).mono ?_
        rintro e w5 ⟨rfl, rfl⟩
        simp only
        refine hK _ _ HC1 ?_
        clear hK K
        refine RC.take (i := 22) (v := ?vb22) rfl (by kernel_rfl) (by kernel_rfl) (by kernel_rfl) (fun _ _ _ h => h) HC1 (by rfl) ?yb22 ?rb22
        case yb22 => (intro W hW; obtain ⟨c0, c1, c2, c3⟩ := hW; go_simp; try with_reducible rfl)
        refine RC.take (i := 23) (v := ?vb23) rfl (by kernel_rfl) (by kernel_rfl) (by kernel_rfl) (fun _ _ _ h => h) HC1 (by rfl) ?yb23 ?rb23
        case yb23 => (intro W hW; obtain ⟨c0, c1, c2, c3⟩ := hW; go_simp; try with_reducible rfl)
        refine RC.want (i := 24) (by kernel_rfl) rfl (by rfl) (fun K hK => ?_)
        go_simp
        have HC2 : BoxL w.heap.size (x, y) (x', y') (wr.alloc (.cells #[.int .i64 (x + px), .int .i64 (y + py)] 24)).drew := HC0.below (n := w.heap.size + 2) ((Below.refl _ _).alloc hsz _).drew (Nat.le_refl _)
        refine hK _ _ HC2 ?_
        clear hK K
        refine RC.want (i := 25) (by kernel_rfl) rfl (by rfl) (fun K hK => ?_)
        refine wpOp_append _ _ _ 27 rfl (w.heap.size + 2) 24 i0 (.agg #[.int .i64 0, .int .i64 0]) 2 16 Try.underlying27 hi hz0 hz1 hz2 rfl (by decide) (.slice (some ⟨g, 0, none⟩) j cap) j _ rfl (hown.alloc _).drew ⟨wr.heap.size, 0, none⟩ 1 1 [.int .i64 (x + px), .int .i64 (y + py)] rfl rfl (fun j u hj => by
            match j, hj with
            | 0, hj => simp at hj; subst hj; simp [Addr.add]
            | 1, hj => simp at hj; subst hj; simp [Addr.add]) (fun u hu => by
            simp at hu
            rcases hu with rfl | rfl <;> rfl) (by unfold maxLen; omega) (by omega) (by simp; omega) ?_
        intro v' w6 hown' hgrow _
        obtain ⟨g', cap', rfl⟩ := ownsRow_succ hown'
        have hB6 : Below (w.heap.size + 2) wr w6 := (((Below.refl _ wr).alloc hsz _).drew).grown hgrow (by simp; omega) (by
          intro k hk
          simp [Value.ownBlock] at hk
          rcases hown.2 with ⟨h, _⟩ | ⟨g0, _, _, h, hg0, _⟩
          · cases h
          · cases h; omega)
        refine hK _ _ (HC0.below hB6 (Nat.le_refl _)) ?_
        clear hK K
        refine RC.take (i := 26) (v := ?vb26) rfl (by kernel_rfl) (by kernel_rfl) (by kernel_rfl) (fun _ _ _ h => h) (HC0.below hB6 (Nat.le_refl _)) (by rfl) ?yb26 ?rb26
        case yb26 => (intro W hW; obtain ⟨c0, c1, c2, c3⟩ := hW; go_simp; try with_reducible rfl)
        refine RC.done (by kernel_rfl) ?_
        have z6 := hB6.size
        have HO6 : w6.ownsRow (w.heap.size + 2) 24 2 (.slice (some ⟨g', 0, none⟩) (j + 1) cap') (j + 1) (cellVals ((List.range (j + 1)).map gl)) := by
          rw [List.range_succ, List.map_append, List.map_cons, List.map_nil, cellVals_snoc, HCe'.out]
          exact hown'
        have HB6 := HC0.below hB6 (Nat.le_refl _)
        have hB7 := hB.trans (hB6.mono (by omega))
        clear hown' hgrow hB6 hown HC0 HC1 HC2 hw1 hw2 hw3 hw4
        go_wp2
        refine ⟨?_, ?measure⟩
        (repeat apply Exists.intro)
        refine ⟨?rel, rfl⟩
        case rel => exact ⟨j + 1, g', cap', by omega, by omega, by go_num, rfl, HO6, HB6, hB7, by omega⟩
        case measure => simp [intOf]; omega
      · have hje : j = N + 1 := by omega
        subst hje
        have hltI : ¬ ((N + 1 : Nat) : Int) ≤ (N : Int) := by omega
        have HFin := ownsRow_base hown (show w.heap.size ≤ w.heap.size + 2 by omega)
        rw [List.range_succ, List.map_append, List.map_cons, List.map_nil] at HFin
        have HF2 : Hid _ := HFin
        clear hown HFin
        go_wp2
        go_ret
        exact ⟨.slice (some ⟨g, 0, none⟩) (N + 1) cap, rfl, HF2.out, hB⟩

end Leg
end Go.Proofs.Ytcamggfmaphcbaa
