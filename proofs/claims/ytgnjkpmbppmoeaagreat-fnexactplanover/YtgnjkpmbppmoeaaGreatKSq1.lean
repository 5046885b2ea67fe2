/- DERIVED. spec.l17Leg from the lesser cell: its walk (written by wip/tools/mk_sq.py). -/
import Derived.Test.YtgnjkpmbppmoeaaGreatKGAp
namespace Go.Proofs.YtgnjkpmbppmoeaaGreat
namespace Pcl
open Go.RowKit Leg
set_option linter.unusedSimpArgs false
set_option linter.unusedVariables false

set_option maxHeartbeats 4000000 in
set_option maxRecDepth 100000 in
theorem sUp (a b : DCell) (w : World) (ha : InLeg a) (hb : InLeg b) (hl : Lesser a b) :
    Calls Tryz.prog 80 #[vCe a, vCe b] w fun e w' => ∃ v, e = .returned v ∧ w'.ownsRow w.heap.size 84 2 v (legUp a b).length (valsPlanCell (legUp a b)) ∧ Below w.heap.size w w' := by
  have hs := steps_le ha hb
  obtain ⟨N, hN⟩ : ∃ N : Nat, stepsOf a b = (N : Int) := ⟨(stepsOf a b).toNat, by omega⟩
  have e0 : legUp a b = (List.range (N + 1)).map fun (j : Nat) => cellOf (N : Int) a b (j : Int) := by unfold legUp; rw [hN]; rfl
  rw [e0, List.length_map, List.length_range]
  have hN15 : N ≤ 15 := by omega
  obtain ⟨i0, hi, hz0, hz1, hz2⟩ := info_parts infoPC
  obtain ⟨x, y⟩ := a
  obtain ⟨x', y'⟩ := b
  have HZ : Hid (cellOf (N : Int) (x, y) (x', y') ((0 : Nat) : Int) = (x, y)) := by
    show _ = _
    unfold cellOf
    rw [show (((0 : Nat) : Int)) = 0 from rfl, near_zero _ _ _ (by omega), near_zero _ _ _ (by omega)]
  have HPX : Hid (∀ k : Int, 0 ≤ k ∧ k ≤ (N : Int) → 1 ≤ N → ∀ W, Calls Tryz.prog 108 #[.int .i64 (x' - x), .int .i64 k, .int .i64 (N : Int)] W fun e w' => e = .returned (.int .i64 (partOf (x' - x) k (N : Int))) ∧ W = w') := fun k hk h1 W => sPart _ _ _ W ⟨by have := ha.1; have := hb.1; omega, by have := ha.1; have := hb.1; omega⟩ ⟨by omega, by omega⟩ hk
  have HPY : Hid (∀ k : Int, 0 ≤ k ∧ k ≤ (N : Int) → 1 ≤ N → ∀ W, Calls Tryz.prog 108 #[.int .i64 (y' - y), .int .i64 k, .int .i64 (N : Int)] W fun e w' => e = .returned (.int .i64 (partOf (y' - y) k (N : Int))) ∧ W = w') := fun k hk h1 W => sPart _ _ _ W ⟨by have := ha.2; have := hb.2; omega, by have := ha.2; have := hb.2; omega⟩ ⟨by omega, by omega⟩ hk
  have HC : Hid (∀ k : Int, 0 ≤ k ∧ k ≤ (N : Int) → 1 ≤ N → cellOf (N : Int) (x, y) (x', y') k = (x + partOf (x' - x) k (N : Int), y + partOf (y' - y) k (N : Int)) ∧ (-20 ≤ partOf (x' - x) k (N : Int) ∧ partOf (x' - x) k (N : Int) ≤ 20) ∧ (-20 ≤ partOf (y' - y) k (N : Int) ∧ partOf (y' - y) k (N : Int) ≤ 20)) := fun k hk h1 => ⟨by unfold cellOf; rw [near_part _ _ _ _ (by omega), near_part _ _ _ _ (by omega)], near_in _ _ _ _ ha.1 hb.1 ⟨by omega, by omega⟩ hk, near_in _ _ _ _ ha.2 hb.2 ⟨by omega, by omega⟩ hk⟩
  have hl1 : ¬ x' < x := by rcases hl with h | h <;> simp at h <;> omega
  have hl2 : x' = x → y ≤ y' := fun e => by rcases hl with h | h <;> simp at h <;> omega
  have ex : apartOf x x' = if x - x' < 0 then -(x - x') else x - x' := by unfold apartOf; split <;> split <;> omega
  have ey : apartOf y y' = if y - y' < 0 then -(y - y') else y - y' := by unfold apartOf; split <;> split <;> omega
  have HX := fun w => sAbs (x - x') _ w ⟨by have := ha.1; have := hb.1; omega, by have := ha.1; have := hb.1; omega⟩ ex
  have HY := fun w => sAbs (y - y') _ w ⟨by have := ha.2; have := hb.2; omega, by have := ha.2; have := hb.2; omega⟩ ey
  have HM := fun w => sMax (apartOf x x') (apartOf y y') (N : Int) w hN.symm
  clear ex ey
  generalize apartOf x x' = dx at HX HM
  generalize apartOf y y' = dy at HY HM
  obtain ⟨⟨hx1, hx2⟩, hy1, hy2⟩ := ha
  obtain ⟨⟨hx3, hx4⟩, hy3, hy4⟩ := hb
  simp only at hx1 hx2 hx3 hx4 hy1 hy2 hy3 hy4
  simp only [vCe]
  clear hs hN e0 hl
  generalize hgl : (fun (j : Nat) => cellOf (N : Int) (x, y) (x', y') (j : Int)) = gl
  have HG : Hid (∀ j : Nat, gl j = cellOf (N : Int) (x, y) (x', y') (j : Int)) := fun j => by rw [← hgl]
  clear hgl
  have HL0 : BoxL w.heap.size (x, y) (x', y') (((w.alloc (.cells #[.int .i64 x, .int .i64 y] 84)).alloc (.cells #[.int .i64 x', .int .i64 y'] 84)).alloc (.cells #[] 84)) := ⟨by go_simp, by go_simp, by go_simp, by go_simp⟩
  go_enter Tryz.func80, Tryz.ntmps80
  have hor : ((x' == x) = false) ∨ ((x' == x) = true ∧ y ≤ y') := by
    by_cases e : x' = x
    · exact .inr ⟨by simp [e], hl2 e⟩
    · exact .inl (by simp [e])
  clear hl2
  rcases hor with hxb | ⟨hxb, hyl⟩
  · go_wp2_with fail
    go_quiet ((first | (go_at_call 107; first | (refine (HX _).mono ?_; rintro e w' ⟨rfl, rfl⟩; exact ⟨rfl, _, rfl⟩) | (refine (HY _).mono ?_; rintro e w' ⟨rfl, rfl⟩; exact ⟨rfl, _, rfl⟩)) | (go_at_call 42; refine (HM _).mono ?_; rintro e w' ⟨rfl, rfl⟩; exact ⟨rfl, _, rfl⟩)))
    obtain ⟨w3, hw3⟩ : ∃ w3 : World, w3 = ((((w.alloc (.cells #[.int .i64 x, .int .i64 y] 84)).alloc (.cells #[.int .i64 x', .int .i64 y'] 84)).alloc (.cells #[] 84)).drewN nq) := ⟨_, rfl⟩
    rw [← hw3]
    have hB3 : Below w.heap.size w w3 := by rw [hw3]; exact below_drewN ((((Below.refl w.heap.size w).alloc (Nat.le_refl _) _).alloc (by simp) _).alloc (by simp; omega) _) _
    have hO3 : w3.ownsRow (w.heap.size + 2) 84 2 (.slice (some ⟨w.heap.size + 1 + 1, 0, none⟩) 0 0) 0 [] := by
      rw [hw3]
      have h := empty_cells ((w.alloc (.cells #[.int .i64 x, .int .i64 y] 84)).alloc (.cells #[.int .i64 x', .int .i64 y'] 84)) 84 (w.heap.size + 2) (by simp)
      simp only [World.size_alloc] at h
      exact h.kept (grown_bel none (below_drewN (Below.refl _ _) _)) (.inr (by simp [Value.ownBlock]))
    have z3 : w.heap.size + 3 ≤ w3.heap.size := by rw [hw3]; simp
    have HL3 : BoxL w.heap.size (x, y) (x', y') w3 := by rw [hw3]; exact HL0.below (n := w.heap.size + 2) (below_drewN (Below.refl _ _) _) (Nat.le_refl _)
    have z2 : w.heap.size + 2 ≤ w3.heap.size := by omega
    clear hw3 HL0
    have a0 := HL3.1
    have a1 := HL3.2.1
    clear HX HY HM
    go_wp2_with (at_builtin; refine wpList_append_own _ rfl _ _ 78 rfl (w.heap.size + 2) 84 i0 (.agg #[.int .i64 0, .int .i64 0]) 2 16 Tryz.underlying78 hi hz0 hz1 hz2 rfl (by decide) _ _ _ rfl (hO3.alloc _) ⟨w3.heap.size, 0, none⟩ 1 1 [.int .i64 x, .int .i64 y] rfl rfl ?c1 ?c2 ?c3 ?c4 ?c5 ?_)
    all_goals try first
      | (intro j u hj
         match j, hj with
         | 0, hj => simp at hj; subst hj; simp [Addr.add]
         | 1, hj => simp at hj; subst hj; simp [Addr.add])
      | (intro u hu; simp at hu; rcases hu with rfl | rfl <;> rfl)
      | exact ⟨rfl, rfl⟩
      | (unfold maxLen; omega)
      | omega
      | (simp; omega)
    intro v' w4 hown' hgrow _
    obtain ⟨g', cap', rfl⟩ := owns_pos hown'
    have hB4a : Below (w.heap.size + 2) w3 w4 := ((Below.refl _ w3).alloc (by omega) _).grown hgrow (by simp; omega) (by intro k hk; simp [Value.ownBlock] at hk; omega)
    have hB4 := hB3.trans (hB4a.mono (by omega))
    have HL4 := HL3.below hB4a (Nat.le_refl _)
    have z4 := hB4a.size
    clear hB4a hB3 HL3 hgrow a0 a1 hO3
    go_wp2_with fail
    go_loopw [5, 9] (fun v i wr => ∃ j g cap : Nat, 1 ≤ j ∧ j ≤ N + 1 ∧ i = .int .i64 j ∧ v = .slice (some ⟨g, 0, none⟩) j cap ∧ wr.ownsRow (w.heap.size + 2) 84 2 (.slice (some ⟨g, 0, none⟩) j cap) j (valsPlanCell ((List.range j).map gl)) ∧ BoxL w.heap.size (x, y) (x', y') wr ∧ Below w.heap.size w wr ∧ w.heap.size + 2 ≤ wr.heap.size) (fun _ i _ => N + 1 - (intOf i).toNat)
    case atStart => exact ⟨1, g', cap', by omega, by omega, rfl, rfl, by
      have e : valsPlanCell ((List.range 1).map gl) = [.int .i64 x, .int .i64 y] := by
        rw [show List.range 1 = [0] from rfl, List.map_cons, List.map_nil, HG.out, HZ.out]
        rfl
      rw [e]
      simpa using hown', HL4, hB4, by omega⟩
    case round =>
      obtain ⟨j, g, cap, hj1, hj2, rfl, rfl, hown, HC0, hB, hsz⟩ := hrel
      by_cases hlt : j ≤ N
      · have hltI : (j : Int) ≤ (N : Int) := by omega
        have PX := HPX.out (j : Int) ⟨by omega, by omega⟩ (by omega)
        have PY := HPY.out (j : Int) ⟨by omega, by omega⟩ (by omega)
        obtain ⟨HCe, ⟨hp1, hp2⟩, hq1, hq2⟩ := HC.out (j : Int) ⟨by omega, by omega⟩ (by omega)
        have HCe' : Hid (gl j = (x + partOf (x' - x) (j : Int) (N : Int), y + partOf (y' - y) (j : Int) (N : Int))) := by
          show _ = _
          rw [HG.out]
          exact HCe
        clear HCe
        generalize partOf (x' - x) (j : Int) (N : Int) = px at *
        generalize partOf (y' - y) (j : Int) (N : Int) = py at *
        have hw1 : IntKind.i64.wrap (x' - x) = x' - x := by rw [IntKind.wrap_i64]; all_goals omega
        have hw2 : IntKind.i64.wrap (y' - y) = y' - y := by rw [IntKind.wrap_i64]; all_goals omega
        have hw3 : IntKind.i64.wrap (x + px) = x + px := by rw [IntKind.wrap_i64]; all_goals omega
        have hw4 : IntKind.i64.wrap (y + py) = y + py := by rw [IntKind.wrap_i64]; all_goals omega
        go_wp2_with fail
        refine wp_region_RC (BoxL w.heap.size (x, y) (x', y')) mixedP ?_
        have HC1 : BoxL w.heap.size (x, y) (x', y') wr.drew := HC0.below ((Below.refl (w.heap.size + 2) wr).drew) (Nat.le_refl _)
        refine RC.take (i := 0) (v := ?va0) rfl (by kernel_rfl) (by kernel_rfl) (by kernel_rfl) (fun _ _ _ h => h) HC1 (by rfl) ?ya0 ?ra0
        case ya0 => (intro W hW; obtain ⟨c0, c1, c2, c3⟩ := hW; go_simp; try with_reducible rfl)
        refine RC.take (i := 1) (v := ?va1) rfl (by kernel_rfl) (by kernel_rfl) (by kernel_rfl) (fun _ _ _ h => h) HC1 (by rfl) ?ya1 ?ra1
        case ya1 => (intro W hW; obtain ⟨c0, c1, c2, c3⟩ := hW; go_simp; try with_reducible rfl)
        refine RC.take (i := 2) (v := ?va2) rfl (by kernel_rfl) (by kernel_rfl) (by kernel_rfl) (fun _ _ _ h => h) HC1 (by rfl) ?ya2 ?ra2
        case ya2 => (intro W hW; obtain ⟨c0, c1, c2, c3⟩ := hW; go_simp; try with_reducible rfl)
        refine RC.take (i := 3) (v := ?va3) rfl (by kernel_rfl) (by kernel_rfl) (by kernel_rfl) (fun _ _ _ h => h) HC1 (by rfl) ?ya3 ?ra3
        case ya3 => (intro W hW; obtain ⟨c0, c1, c2, c3⟩ := hW; go_simp; try with_reducible rfl)
        refine RC.take (i := 4) (v := ?va4) rfl (by kernel_rfl) (by kernel_rfl) (by kernel_rfl) (fun _ _ _ h => h) HC1 (by rfl) ?ya4 ?ra4
        case ya4 => (intro W hW; obtain ⟨c0, c1, c2, c3⟩ := hW; go_simp; try with_reducible rfl)
        refine RC.take (i := 5) (v := ?va5) rfl (by kernel_rfl) (by kernel_rfl) (by kernel_rfl) (fun _ _ _ h => h) HC1 (by rfl) ?ya5 ?ra5
        case ya5 => (intro W hW; obtain ⟨c0, c1, c2, c3⟩ := hW; go_simp; try with_reducible rfl)
        refine RC.take (i := 6) (v := ?va6) rfl (by kernel_rfl) (by kernel_rfl) (by kernel_rfl) (fun _ _ _ h => h) HC1 (by rfl) ?ya6 ?ra6
        case ya6 => (intro W hW; obtain ⟨c0, c1, c2, c3⟩ := hW; go_simp; try with_reducible rfl)
        refine RC.take (i := 7) (v := ?va7) rfl (by kernel_rfl) (by kernel_rfl) (by kernel_rfl) (fun _ _ _ h => h) HC1 (by rfl) ?ya7 ?ra7
        case ya7 => (intro W hW; obtain ⟨c0, c1, c2, c3⟩ := hW; go_simp; try with_reducible rfl)
        refine RC.take (i := 8) (v := ?va8) rfl (by kernel_rfl) (by kernel_rfl) (by kernel_rfl) (fun _ _ _ h => h) HC1 (by rfl) ?ya8 ?ra8
        case ya8 => (intro W hW; obtain ⟨c0, c1, c2, c3⟩ := hW; go_simp; try with_reducible rfl)
        refine RC.take (i := 9) (v := ?va9) rfl (by kernel_rfl) (by kernel_rfl) (by kernel_rfl) (fun _ _ _ h => h) HC1 (by rfl) ?ya9 ?ra9
        case ya9 => (intro W hW; obtain ⟨c0, c1, c2, c3⟩ := hW; go_simp; try with_reducible rfl)
        refine RC.take (i := 12) (v := ?va12) rfl (by kernel_rfl) (by kernel_rfl) (by kernel_rfl) (fun _ _ _ h => h) HC1 (by rfl) ?ya12 ?ra12
        case ya12 => (intro W hW; obtain ⟨c0, c1, c2, c3⟩ := hW; go_simp; try with_reducible rfl)
        refine RC.take (i := 13) (v := ?va13) rfl (by kernel_rfl) (by kernel_rfl) (by kernel_rfl) (fun _ _ _ h => h) HC1 (by rfl) ?ya13 ?ra13
        case ya13 => (intro W hW; obtain ⟨c0, c1, c2, c3⟩ := hW; go_simp; try with_reducible rfl)
        refine RC.take (i := 14) (v := ?va14) rfl (by kernel_rfl) (by kernel_rfl) (by kernel_rfl) (fun _ _ _ h => h) HC1 (by rfl) ?ya14 ?ra14
        case ya14 => (intro W hW; obtain ⟨c0, c1, c2, c3⟩ := hW; go_simp; try with_reducible rfl)
        refine RC.take (i := 15) (v := ?va15) rfl (by kernel_rfl) (by kernel_rfl) (by kernel_rfl) (fun _ _ _ h => h) HC1 (by rfl) ?ya15 ?ra15
        case ya15 => (intro W hW; obtain ⟨c0, c1, c2, c3⟩ := hW; go_simp; try with_reducible rfl)
        refine RC.take (i := 16) (v := ?va16) rfl (by kernel_rfl) (by kernel_rfl) (by kernel_rfl) (fun _ _ _ h => h) HC1 (by rfl) ?ya16 ?ra16
        case ya16 => (intro W hW; obtain ⟨c0, c1, c2, c3⟩ := hW; go_simp; try with_reducible rfl)
        refine RC.take (i := 17) (v := ?va17) rfl (by kernel_rfl) (by kernel_rfl) (by kernel_rfl) (fun _ _ _ h => h) HC1 (by rfl) ?ya17 ?ra17
        case ya17 => (intro W hW; obtain ⟨c0, c1, c2, c3⟩ := hW; go_simp; try with_reducible rfl)
        refine RC.take (i := 18) (v := ?va18) rfl (by kernel_rfl) (by kernel_rfl) (by kernel_rfl) (fun _ _ _ h => h) HC1 (by rfl) ?ya18 ?ra18
        case ya18 => (intro W hW; obtain ⟨c0, c1, c2, c3⟩ := hW; go_simp; try with_reducible rfl)
        refine RC.take (i := 19) (v := ?va19) rfl (by kernel_rfl) (by kernel_rfl) (by kernel_rfl) (fun _ _ _ h => h) HC1 (by rfl) ?ya19 ?ra19
        case ya19 => (intro W hW; obtain ⟨c0, c1, c2, c3⟩ := hW; go_simp; try with_reducible rfl)
        refine RC.take (i := 20) (v := ?va20) rfl (by kernel_rfl) (by kernel_rfl) (by kernel_rfl) (fun _ _ _ h => h) HC1 (by rfl) ?ya20 ?ra20
        case ya20 => (intro W hW; obtain ⟨c0, c1, c2, c3⟩ := hW; go_simp; try with_reducible rfl)
        refine RC.want (i := 10) (by kernel_rfl) rfl (by rfl) (fun K hK => ?_)
        go_simp
        refine (PX _).mono ?_
        rintro e w5 ⟨rfl, rfl⟩
        simp only
        refine hK _ _ HC1 ?_
        clear hK K
        refine RC.take (i := 11) (v := ?va11) rfl (by kernel_rfl) (by kernel_rfl) (by kernel_rfl) (fun _ _ _ h => h) HC1 (by rfl) ?ya11 ?ra11
        case ya11 => (intro W hW; obtain ⟨c0, c1, c2, c3⟩ := hW; go_simp; try with_reducible rfl)
        refine RC.want (i := 21) (by kernel_rfl) rfl (by rfl) (fun K hK => ?_)
        go_simp
        refine (PY _).mono ?_
        rintro e w5 ⟨rfl, rfl⟩
        simp only
        refine hK _ _ HC1 ?_
        clear hK K
        refine RC.take (i := 22) (v := ?va22) rfl (by kernel_rfl) (by kernel_rfl) (by kernel_rfl) (fun _ _ _ h => h) HC1 (by rfl) ?ya22 ?ra22
        case ya22 => (intro W hW; obtain ⟨c0, c1, c2, c3⟩ := hW; go_simp; try with_reducible rfl)
        refine RC.take (i := 23) (v := ?va23) rfl (by kernel_rfl) (by kernel_rfl) (by kernel_rfl) (fun _ _ _ h => h) HC1 (by rfl) ?ya23 ?ra23
        case ya23 => (intro W hW; obtain ⟨c0, c1, c2, c3⟩ := hW; go_simp; try with_reducible rfl)
        refine RC.want (i := 24) (by kernel_rfl) rfl (by rfl) (fun K hK => ?_)
        go_simp
        have HC2 : BoxL w.heap.size (x, y) (x', y') (wr.alloc (.cells #[.int .i64 (x + px), .int .i64 (y + py)] 84)).drew := HC0.below (n := w.heap.size + 2) ((Below.refl _ _).alloc hsz _).drew (Nat.le_refl _)
        refine hK _ _ HC2 ?_
        clear hK K
        refine RC.want (i := 25) (by kernel_rfl) rfl (by rfl) (fun K hK => ?_)
        refine wpOp_append _ _ _ 78 rfl (w.heap.size + 2) 84 i0 (.agg #[.int .i64 0, .int .i64 0]) 2 16 Tryz.underlying78 hi hz0 hz1 hz2 rfl (by decide) (.slice (some ⟨g, 0, none⟩) j cap) j _ rfl (hown.alloc _).drew ⟨wr.heap.size, 0, none⟩ 1 1 [.int .i64 (x + px), .int .i64 (y + py)] rfl rfl (fun j u hj => by
            match j, hj with
            | 0, hj => simp at hj; subst hj; simp [Addr.add]
            | 1, hj => simp at hj; subst hj; simp [Addr.add]) (fun u hu => by
            simp at hu
            rcases hu with rfl | rfl <;> rfl) (by unfold maxLen; omega) (by omega) (by simp; omega) ?_
        intro v' w6 hown' hgrow _
        obtain ⟨g', cap', rfl⟩ := owns_pos hown'
        have hB6 : Below (w.heap.size + 2) wr w6 := (((Below.refl _ wr).alloc hsz _).drew).grown hgrow (by simp; omega) (by
          intro k hk
          simp [Value.ownBlock] at hk
          rcases hown.2 with ⟨h, _⟩ | ⟨g0, _, _, h, hg0, _⟩
          · cases h
          · cases h; omega)
        refine hK _ _ (HC0.below hB6 (Nat.le_refl _)) ?_
        clear hK K
        refine RC.take (i := 26) (v := ?va26) rfl (by kernel_rfl) (by kernel_rfl) (by kernel_rfl) (fun _ _ _ h => h) (HC0.below hB6 (Nat.le_refl _)) (by rfl) ?ya26 ?ra26
        case ya26 => (intro W hW; obtain ⟨c0, c1, c2, c3⟩ := hW; go_simp; try with_reducible rfl)
        refine RC.done (by kernel_rfl) ?_
        have z6 := hB6.size
        have HO6 : w6.ownsRow (w.heap.size + 2) 84 2 (.slice (some ⟨g', 0, none⟩) (j + 1) cap') (j + 1) (valsPlanCell ((List.range (j + 1)).map gl)) := by
          rw [List.range_succ, List.map_append, List.map_cons, List.map_nil, valsPlanCell_snoc, HCe'.out]
          exact hown'
        have HB6 := HC0.below hB6 (Nat.le_refl _)
        have hB7 := hB.trans (hB6.mono (by omega))
        clear hown' hgrow hB6 hown HC0 HC1 HC2 hw1 hw2 hw3 hw4
        go_wp2
        refine ⟨?_, ?measure⟩
        (repeat apply Exists.intro)
        refine ⟨?rel, rfl⟩
        case rel => exact ⟨j + 1, g', cap', by omega, by omega, by go_num, rfl, HO6, HB6, hB7, by omega⟩
        case measure => simp [intOf]; omega
      · have hje : j = N + 1 := by omega
        subst hje
        have hltI : ¬ ((N + 1 : Nat) : Int) ≤ (N : Int) := by omega
        have HFin := own_lo hown (show w.heap.size ≤ w.heap.size + 2 by omega)
        rw [List.range_succ, List.map_append, List.map_cons, List.map_nil] at HFin
        have HF2 : Hid _ := HFin
        clear hown HFin
        go_wp2
        go_ret
        exact ⟨.slice (some ⟨g, 0, none⟩) (N + 1) cap, rfl, HF2.out, hB⟩
  · go_wp2_with fail
    go_quiet ((first | (go_at_call 107; first | (refine (HX _).mono ?_; rintro e w' ⟨rfl, rfl⟩; exact ⟨rfl, _, rfl⟩) | (refine (HY _).mono ?_; rintro e w' ⟨rfl, rfl⟩; exact ⟨rfl, _, rfl⟩)) | (go_at_call 42; refine (HM _).mono ?_; rintro e w' ⟨rfl, rfl⟩; exact ⟨rfl, _, rfl⟩)))
    obtain ⟨w3, hw3⟩ : ∃ w3 : World, w3 = ((((w.alloc (.cells #[.int .i64 x, .int .i64 y] 84)).alloc (.cells #[.int .i64 x', .int .i64 y'] 84)).alloc (.cells #[] 84)).drewN nq) := ⟨_, rfl⟩
    rw [← hw3]
    have hB3 : Below w.heap.size w w3 := by rw [hw3]; exact below_drewN ((((Below.refl w.heap.size w).alloc (Nat.le_refl _) _).alloc (by simp) _).alloc (by simp; omega) _) _
    have hO3 : w3.ownsRow (w.heap.size + 2) 84 2 (.slice (some ⟨w.heap.size + 1 + 1, 0, none⟩) 0 0) 0 [] := by
      rw [hw3]
      have h := empty_cells ((w.alloc (.cells #[.int .i64 x, .int .i64 y] 84)).alloc (.cells #[.int .i64 x', .int .i64 y'] 84)) 84 (w.heap.size + 2) (by simp)
      simp only [World.size_alloc] at h
      exact h.kept (grown_bel none (below_drewN (Below.refl _ _) _)) (.inr (by simp [Value.ownBlock]))
    have z3 : w.heap.size + 3 ≤ w3.heap.size := by rw [hw3]; simp
    have HL3 : BoxL w.heap.size (x, y) (x', y') w3 := by rw [hw3]; exact HL0.below (n := w.heap.size + 2) (below_drewN (Below.refl _ _) _) (Nat.le_refl _)
    have z2 : w.heap.size + 2 ≤ w3.heap.size := by omega
    clear hw3 HL0
    have a0 := HL3.1
    have a1 := HL3.2.1
    clear HX HY HM
    go_wp2_with (at_builtin; refine wpList_append_own _ rfl _ _ 78 rfl (w.heap.size + 2) 84 i0 (.agg #[.int .i64 0, .int .i64 0]) 2 16 Tryz.underlying78 hi hz0 hz1 hz2 rfl (by decide) _ _ _ rfl (hO3.alloc _) ⟨w3.heap.size, 0, none⟩ 1 1 [.int .i64 x, .int .i64 y] rfl rfl ?d1 ?d2 ?d3 ?d4 ?d5 ?_)
    all_goals try first
      | (intro j u hj
         match j, hj with
         | 0, hj => simp at hj; subst hj; simp [Addr.add]
         | 1, hj => simp at hj; subst hj; simp [Addr.add])
      | (intro u hu; simp at hu; rcases hu with rfl | rfl <;> rfl)
      | exact ⟨rfl, rfl⟩
      | (unfold maxLen; omega)
      | omega
      | (simp; omega)
    intro v' w4 hown' hgrow _
    obtain ⟨g', cap', rfl⟩ := owns_pos hown'
    have hB4a : Below (w.heap.size + 2) w3 w4 := ((Below.refl _ w3).alloc (by omega) _).grown hgrow (by simp; omega) (by intro k hk; simp [Value.ownBlock] at hk; omega)
    have hB4 := hB3.trans (hB4a.mono (by omega))
    have HL4 := HL3.below hB4a (Nat.le_refl _)
    have z4 := hB4a.size
    clear hB4a hB3 HL3 hgrow a0 a1 hO3
    go_wp2_with fail
    go_loopw [5, 9] (fun v i wr => ∃ j g cap : Nat, 1 ≤ j ∧ j ≤ N + 1 ∧ i = .int .i64 j ∧ v = .slice (some ⟨g, 0, none⟩) j cap ∧ wr.ownsRow (w.heap.size + 2) 84 2 (.slice (some ⟨g, 0, none⟩) j cap) j (valsPlanCell ((List.range j).map gl)) ∧ BoxL w.heap.size (x, y) (x', y') wr ∧ Below w.heap.size w wr ∧ w.heap.size + 2 ≤ wr.heap.size) (fun _ i _ => N + 1 - (intOf i).toNat)
    case atStart => exact ⟨1, g', cap', by omega, by omega, rfl, rfl, by
      have e : valsPlanCell ((List.range 1).map gl) = [.int .i64 x, .int .i64 y] := by
        rw [show List.range 1 = [0] from rfl, List.map_cons, List.map_nil, HG.out, HZ.out]
        rfl
      rw [e]
      simpa using hown', HL4, hB4, by omega⟩
    case round =>
      obtain ⟨j, g, cap, hj1, hj2, rfl, rfl, hown, HC0, hB, hsz⟩ := hrel
      by_cases hlt : j ≤ N
      · have hltI : (j : Int) ≤ (N : Int) := by omega
        have PX := HPX.out (j : Int) ⟨by omega, by omega⟩ (by omega)
        have PY := HPY.out (j : Int) ⟨by omega, by omega⟩ (by omega)
        obtain ⟨HCe, ⟨hp1, hp2⟩, hq1, hq2⟩ := HC.out (j : Int) ⟨by omega, by omega⟩ (by omega)
        have HCe' : Hid (gl j = (x + partOf (x' - x) (j : Int) (N : Int), y + partOf (y' - y) (j : Int) (N : Int))) := by
          show _ = _
          rw [HG.out]
          exact HCe
        clear HCe
        generalize partOf (x' - x) (j : Int) (N : Int) = px at *
        generalize partOf (y' - y) (j : Int) (N : Int) = py at *
        have hw1 : IntKind.i64.wrap (x' - x) = x' - x := by rw [IntKind.wrap_i64]; all_goals omega
        have hw2 : IntKind.i64.wrap (y' - y) = y' - y := by rw [IntKind.wrap_i64]; all_goals omega
        have hw3 : IntKind.i64.wrap (x + px) = x + px := by rw [IntKind.wrap_i64]; all_goals omega
        have hw4 : IntKind.i64.wrap (y + py) = y + py := by rw [IntKind.wrap_i64]; all_goals omega
        go_wp2_with fail
        refine wp_region_RC (BoxL w.heap.size (x, y) (x', y')) mixedP ?_
        have HC1 : BoxL w.heap.size (x, y) (x', y') wr.drew := HC0.below ((Below.refl (w.heap.size + 2) wr).drew) (Nat.le_refl _)
        refine RC.take (i := 0) (v := ?vza0) rfl (by kernel_rfl) (by kernel_rfl) (by kernel_rfl) (fun _ _ _ h => h) HC1 (by rfl) ?yza0 ?rza0
        case yza0 => (intro W hW; obtain ⟨c0, c1, c2, c3⟩ := hW; go_simp; try with_reducible rfl)
        refine RC.take (i := 1) (v := ?vza1) rfl (by kernel_rfl) (by kernel_rfl) (by kernel_rfl) (fun _ _ _ h => h) HC1 (by rfl) ?yza1 ?rza1
        case yza1 => (intro W hW; obtain ⟨c0, c1, c2, c3⟩ := hW; go_simp; try with_reducible rfl)
        refine RC.take (i := 2) (v := ?vza2) rfl (by kernel_rfl) (by kernel_rfl) (by kernel_rfl) (fun _ _ _ h => h) HC1 (by rfl) ?yza2 ?rza2
        case yza2 => (intro W hW; obtain ⟨c0, c1, c2, c3⟩ := hW; go_simp; try with_reducible rfl)
        refine RC.take (i := 3) (v := ?vza3) rfl (by kernel_rfl) (by kernel_rfl) (by kernel_rfl) (fun _ _ _ h => h) HC1 (by rfl) ?yza3 ?rza3
        case yza3 => (intro W hW; obtain ⟨c0, c1, c2, c3⟩ := hW; go_simp; try with_reducible rfl)
        refine RC.take (i := 4) (v := ?vza4) rfl (by kernel_rfl) (by kernel_rfl) (by kernel_rfl) (fun _ _ _ h => h) HC1 (by rfl) ?yza4 ?rza4
        case yza4 => (intro W hW; obtain ⟨c0, c1, c2, c3⟩ := hW; go_simp; try with_reducible rfl)
        refine RC.take (i := 5) (v := ?vza5) rfl (by kernel_rfl) (by kernel_rfl) (by kernel_rfl) (fun _ _ _ h => h) HC1 (by rfl) ?yza5 ?rza5
        case yza5 => (intro W hW; obtain ⟨c0, c1, c2, c3⟩ := hW; go_simp; try with_reducible rfl)
        refine RC.take (i := 6) (v := ?vza6) rfl (by kernel_rfl) (by kernel_rfl) (by kernel_rfl) (fun _ _ _ h => h) HC1 (by rfl) ?yza6 ?rza6
        case yza6 => (intro W hW; obtain ⟨c0, c1, c2, c3⟩ := hW; go_simp; try with_reducible rfl)
        refine RC.take (i := 7) (v := ?vza7) rfl (by kernel_rfl) (by kernel_rfl) (by kernel_rfl) (fun _ _ _ h => h) HC1 (by rfl) ?yza7 ?rza7
        case yza7 => (intro W hW; obtain ⟨c0, c1, c2, c3⟩ := hW; go_simp; try with_reducible rfl)
        refine RC.take (i := 8) (v := ?vza8) rfl (by kernel_rfl) (by kernel_rfl) (by kernel_rfl) (fun _ _ _ h => h) HC1 (by rfl) ?yza8 ?rza8
        case yza8 => (intro W hW; obtain ⟨c0, c1, c2, c3⟩ := hW; go_simp; try with_reducible rfl)
        refine RC.take (i := 9) (v := ?vza9) rfl (by kernel_rfl) (by kernel_rfl) (by kernel_rfl) (fun _ _ _ h => h) HC1 (by rfl) ?yza9 ?rza9
        case yza9 => (intro W hW; obtain ⟨c0, c1, c2, c3⟩ := hW; go_simp; try with_reducible rfl)
        refine RC.take (i := 12) (v := ?vza12) rfl (by kernel_rfl) (by kernel_rfl) (by kernel_rfl) (fun _ _ _ h => h) HC1 (by rfl) ?yza12 ?rza12
        case yza12 => (intro W hW; obtain ⟨c0, c1, c2, c3⟩ := hW; go_simp; try with_reducible rfl)
        refine RC.take (i := 13) (v := ?vza13) rfl (by kernel_rfl) (by kernel_rfl) (by kernel_rfl) (fun _ _ _ h => h) HC1 (by rfl) ?yza13 ?rza13
        case yza13 => (intro W hW; obtain ⟨c0, c1, c2, c3⟩ := hW; go_simp; try with_reducible rfl)
        refine RC.take (i := 14) (v := ?vza14) rfl (by kernel_rfl) (by kernel_rfl) (by kernel_rfl) (fun _ _ _ h => h) HC1 (by rfl) ?yza14 ?rza14
        case yza14 => (intro W hW; obtain ⟨c0, c1, c2, c3⟩ := hW; go_simp; try with_reducible rfl)
        refine RC.take (i := 15) (v := ?vza15) rfl (by kernel_rfl) (by kernel_rfl) (by kernel_rfl) (fun _ _ _ h => h) HC1 (by rfl) ?yza15 ?rza15
        case yza15 => (intro W hW; obtain ⟨c0, c1, c2, c3⟩ := hW; go_simp; try with_reducible rfl)
        refine RC.take (i := 16) (v := ?vza16) rfl (by kernel_rfl) (by kernel_rfl) (by kernel_rfl) (fun _ _ _ h => h) HC1 (by rfl) ?yza16 ?rza16
        case yza16 => (intro W hW; obtain ⟨c0, c1, c2, c3⟩ := hW; go_simp; try with_reducible rfl)
        refine RC.take (i := 17) (v := ?vza17) rfl (by kernel_rfl) (by kernel_rfl) (by kernel_rfl) (fun _ _ _ h => h) HC1 (by rfl) ?yza17 ?rza17
        case yza17 => (intro W hW; obtain ⟨c0, c1, c2, c3⟩ := hW; go_simp; try with_reducible rfl)
        refine RC.take (i := 18) (v := ?vza18) rfl (by kernel_rfl) (by kernel_rfl) (by kernel_rfl) (fun _ _ _ h => h) HC1 (by rfl) ?yza18 ?rza18
        case yza18 => (intro W hW; obtain ⟨c0, c1, c2, c3⟩ := hW; go_simp; try with_reducible rfl)
        refine RC.take (i := 19) (v := ?vza19) rfl (by kernel_rfl) (by kernel_rfl) (by kernel_rfl) (fun _ _ _ h => h) HC1 (by rfl) ?yza19 ?rza19
        case yza19 => (intro W hW; obtain ⟨c0, c1, c2, c3⟩ := hW; go_simp; try with_reducible rfl)
        refine RC.take (i := 20) (v := ?vza20) rfl (by kernel_rfl) (by kernel_rfl) (by kernel_rfl) (fun _ _ _ h => h) HC1 (by rfl) ?yza20 ?rza20
        case yza20 => (intro W hW; obtain ⟨c0, c1, c2, c3⟩ := hW; go_simp; try with_reducible rfl)
        refine RC.want (i := 10) (by kernel_rfl) rfl (by rfl) (fun K hK => ?_)
        go_simp
        refine (PX _).mono ?_
        rintro e w5 ⟨rfl, rfl⟩
        simp only
        refine hK _ _ HC1 ?_
        clear hK K
        refine RC.take (i := 11) (v := ?vza11) rfl (by kernel_rfl) (by kernel_rfl) (by kernel_rfl) (fun _ _ _ h => h) HC1 (by rfl) ?yza11 ?rza11
        case yza11 => (intro W hW; obtain ⟨c0, c1, c2, c3⟩ := hW; go_simp; try with_reducible rfl)
        refine RC.want (i := 21) (by kernel_rfl) rfl (by rfl) (fun K hK => ?_)
        go_simp
        refine (PY _).mono ?_
        rintro e w5 ⟨rfl, rfl⟩
        simp only
        refine hK _ _ HC1 ?_
        clear hK K
        refine RC.take (i := 22) (v := ?vza22) rfl (by kernel_rfl) (by kernel_rfl) (by kernel_rfl) (fun _ _ _ h => h) HC1 (by rfl) ?yza22 ?rza22
        case yza22 => (intro W hW; obtain ⟨c0, c1, c2, c3⟩ := hW; go_simp; try with_reducible rfl)
        refine RC.take (i := 23) (v := ?vza23) rfl (by kernel_rfl) (by kernel_rfl) (by kernel_rfl) (fun _ _ _ h => h) HC1 (by rfl) ?yza23 ?rza23
        case yza23 => (intro W hW; obtain ⟨c0, c1, c2, c3⟩ := hW; go_simp; try with_reducible rfl)
        refine RC.want (i := 24) (by kernel_rfl) rfl (by rfl) (fun K hK => ?_)
        go_simp
        have HC2 : BoxL w.heap.size (x, y) (x', y') (wr.alloc (.cells #[.int .i64 (x + px), .int .i64 (y + py)] 84)).drew := HC0.below (n := w.heap.size + 2) ((Below.refl _ _).alloc hsz _).drew (Nat.le_refl _)
        refine hK _ _ HC2 ?_
        clear hK K
        refine RC.want (i := 25) (by kernel_rfl) rfl (by rfl) (fun K hK => ?_)
        refine wpOp_append _ _ _ 78 rfl (w.heap.size + 2) 84 i0 (.agg #[.int .i64 0, .int .i64 0]) 2 16 Tryz.underlying78 hi hz0 hz1 hz2 rfl (by decide) (.slice (some ⟨g, 0, none⟩) j cap) j _ rfl (hown.alloc _).drew ⟨wr.heap.size, 0, none⟩ 1 1 [.int .i64 (x + px), .int .i64 (y + py)] rfl rfl (fun j u hj => by
            match j, hj with
            | 0, hj => simp at hj; subst hj; simp [Addr.add]
            | 1, hj => simp at hj; subst hj; simp [Addr.add]) (fun u hu => by
            simp at hu
            rcases hu with rfl | rfl <;> rfl) (by unfold maxLen; omega) (by omega) (by simp; omega) ?_
        intro v' w6 hown' hgrow _
        obtain ⟨g', cap', rfl⟩ := owns_pos hown'
        have hB6 : Below (w.heap.size + 2) wr w6 := (((Below.refl _ wr).alloc hsz _).drew).grown hgrow (by simp; omega) (by
          intro k hk
          simp [Value.ownBlock] at hk
          rcases hown.2 with ⟨h, _⟩ | ⟨g0, _, _, h, hg0, _⟩
          · cases h
          · cases h; omega)
        refine hK _ _ (HC0.below hB6 (Nat.le_refl _)) ?_
        clear hK K
        refine RC.take (i := 26) (v := ?vza26) rfl (by kernel_rfl) (by kernel_rfl) (by kernel_rfl) (fun _ _ _ h => h) (HC0.below hB6 (Nat.le_refl _)) (by rfl) ?yza26 ?rza26
        case yza26 => (intro W hW; obtain ⟨c0, c1, c2, c3⟩ := hW; go_simp; try with_reducible rfl)
        refine RC.done (by kernel_rfl) ?_
        have z6 := hB6.size
        have HO6 : w6.ownsRow (w.heap.size + 2) 84 2 (.slice (some ⟨g', 0, none⟩) (j + 1) cap') (j + 1) (valsPlanCell ((List.range (j + 1)).map gl)) := by
          rw [List.range_succ, List.map_append, List.map_cons, List.map_nil, valsPlanCell_snoc, HCe'.out]
          exact hown'
        have HB6 := HC0.below hB6 (Nat.le_refl _)
        have hB7 := hB.trans (hB6.mono (by omega))
        clear hown' hgrow hB6 hown HC0 HC1 HC2 hw1 hw2 hw3 hw4
        go_wp2
        refine ⟨?_, ?measure⟩
        (repeat apply Exists.intro)
        refine ⟨?rel, rfl⟩
        case rel => exact ⟨j + 1, g', cap', by omega, by omega, by go_num, rfl, HO6, HB6, hB7, by omega⟩
        case measure => simp [intOf]; omega
      · have hje : j = N + 1 := by omega
        subst hje
        have hltI : ¬ ((N + 1 : Nat) : Int) ≤ (N : Int) := by omega
        have HFin := own_lo hown (show w.heap.size ≤ w.heap.size + 2 by omega)
        rw [List.range_succ, List.map_append, List.map_cons, List.map_nil] at HFin
        have HF2 : Hid _ := HFin
        clear hown HFin
        go_wp2
        go_ret
        exact ⟨.slice (some ⟨g, 0, none⟩) (N + 1) cap, rfl, HF2.out, hB⟩
end Pcl
end Go.Proofs.YtgnjkpmbppmoeaaGreat
