/- DERIVED. spec.PlanCells: its walk (written by wip/tools/mk_sq4.py). -/
import Derived.Test.YtgnjkpmbppmoeaaGreatKGSq
import Derived.Test.YtgnjkpmbppmoeaaGreatKGPs
namespace Go.Proofs.YtgnjkpmbppmoeaaGreat
namespace Pcl
open Go.RowKit Leg
set_option linter.unusedSimpArgs false
set_option linter.unusedVariables false

theorem leg_len {a b : DCell} (ha : InLeg a) (hb : InLeg b) : 1 ≤ (legOf a b).length ∧ (legOf a b).length ≤ 16 := by
  have h1 := steps_le ha hb
  have h2 := steps_le hb ha
  have e1 := legUp_len a b
  have e2 := legUp_len b a
  unfold legOf
  rw [if_pos ⟨ha, hb⟩]
  split
  · omega
  · rw [List.length_reverse]; omega
theorem vals_drop1 (l : List DCell) : valsPlanCell (l.drop 1) = (valsPlanCell l).drop 2 := by
  cases l with
  | nil => rfl
  | cons c l => simp [valsPlanCell]
theorem kept_any {W W' : World} {base : Nat} {e : TypeId} {size n : Nat} {v : Value} {xs : List Value} (h : W.ownsRow base e size v n xs) (hb : Below W.heap.size W W') : W'.ownsRow base e size v n xs := owns_below h hb

def _root_.Go.Value.addrOf : Value → Option Addr
  | .slice a _ _ => a
  | _ => none
def _root_.Go.Value.capOf : Value → Nat
  | .slice _ _ c => c
  | _ => 0

/-- The base's box, and two names of the route. -/
def KC (B g o1 o2 : Nat) (v0 v1 : Value) (n1 n2 : ByteArray) (W : World) : Prop :=
  W.cell? ⟨B, 0, none⟩ = some v0 ∧ W.cell? ⟨B, 1, none⟩ = some v1 ∧ W.cell? ⟨g, o1, none⟩ = some (.string n1) ∧ W.cell? ⟨g, o2, none⟩ = some (.string n2)
theorem KC.kept {B g o1 o2 : Nat} {v0 v1 : Value} {n1 n2 : ByteArray} {W W' : World} (h : KC B g o1 o2 v0 v1 n1 n2 W) (h1 : W'.heap[B]? = W.heap[B]?) (h2 : W'.heap[g]? = W.heap[g]?) : KC B g o1 o2 v0 v1 n1 n2 W' :=
  ⟨(World.cell?_of_block (w := W) h1).trans h.1, (World.cell?_of_block (w := W) h1).trans h.2.1, (World.cell?_of_block (w := W) h2).trans h.2.2.1, (World.cell?_of_block (w := W) h2).trans h.2.2.2⟩

set_option maxRecDepth 100000 in
set_option maxHeartbeats 8000000 in
theorem sCells (x : DPlanBase) (ao0 : Option Addr) (cap0 : Nat) (ao1 : Option Addr) (cap1 : Nat) (aw : Option Addr) (capw : Nat) (ws : List ByteArray) (w : World) (h : BaseAt w x ao0 cap0 ao1 cap1) (hT : TxO w aw ws) (hwl : ws.length ≤ 1048577) :
    Calls Tryz.prog 39 #[.agg #[.slice ao0 x.1.length cap0, .slice ao1 x.2.length cap1], .slice aw ws.length capw] w (GivesC x ws w) := by
  obtain ⟨i0, hi, hz0, hz1, hz2⟩ := info_parts infoPC
  obtain ⟨w0, hw0⟩ : ∃ w0 : World, w0 = (w.alloc (.cells #[.slice ao0 x.1.length cap0, .slice ao1 x.2.length cap1] 40)).alloc (.cells #[] 84) := ⟨_, rfl⟩
  have hb0 : Below w.heap.size w w0 := by rw [hw0]; exact ((Below.refl _ _).alloc (Nat.le_refl _) _).alloc (by simp) _
  have HB0 : BxC w.heap.size #[.slice ao0 x.1.length cap0, .slice ao1 x.2.length cap1] w0 := by rw [hw0]; exact (BxC.new w _ _).below (n := w.heap.size + 1) ((Below.refl _ _).alloc (by simp) _) (by omega)
  have hO0 : w0.ownsRow (w.heap.size + 1) 84 2 (.slice (some ⟨w.heap.size + 1, 0, none⟩) 0 0) 0 [] := by
    rw [hw0]
    have h := empty_cells (w.alloc (.cells #[.slice ao0 x.1.length cap0, .slice ao1 x.2.length cap1] 40)) 84 (w.heap.size + 1) (by simp)
    simp only [World.size_alloc] at h
    exact h
  have hz0' : w.heap.size + 2 ≤ w0.heap.size := by rw [hw0]; simp
  have hA0 := h.later hb0
  have HBS := sBase x ao0 cap0 ao1 cap1 w0 hA0.p0 hA0.p1
  rw [hw0] at HBS
  unfold GivesC
  go_enter Tryz.func39, Tryz.ntmps39
  go_wp2_with fail
  refine HBS.mono ?_
  rw [← hw0]
  rintro e w1 ⟨rfl, hb1⟩
  have hB1 := hb0.trans (hb1.mono hb0.size)
  have HB1 := HB0.below hb1 (by omega)
  have hO1 := kept_any hO0 hb1
  have hz1' : w.heap.size + 2 ≤ w1.heap.size := by have := hb1.size; omega
  clear hb1 hb0 HB0 hA0 hO0 hz0' hw0 HBS
  have x0 := HB1 0
  have x1 := HB1 1
  simp at x0 x1
  have hlt1 : w.heap.size < w1.heap.size := by omega
  by_cases g1 : BaseOk x
  · rw [pb_yes g1]
    have G1 : Hid (BaseOk x) := g1
    clear g1
    have HRO := sRouteO x ao0 cap0 ao1 cap1 aw capw ws w1 (h.later hB1) (hT.later hB1) hwl
    go_wp2_with fail
    refine HRO.mono ?_
    rintro e w2 ⟨rfl, hb2⟩
    have hB2 := hB1.trans (hb2.mono hB1.size)
    have HB2 := HB1.below hb2 (by omega)
    have hO2 := kept_any hO1 hb2
    have hz2' : w.heap.size + 2 ≤ w2.heap.size := by have := hb2.size; omega
    clear hb2 HB1 hB1 hO1 hz1' HRO x0 x1 hlt1
    by_cases g2 : RouteOk x.2 ws
    · rw [pb_yes g2]
      have hr1 := g2.1.1
      have hr2 := g2.1.2
      have G2 : Hid (RouteOk x.2 ws) := g2
      have HHAS : Hid (∀ i (h : i < ws.length), HasNm nmP x.2 (ws[i]'h)) := fun i hi => (g2.2 i hi hi).1
      clear g2
      have HIN : Hid (∀ n, InLeg (endAt x.2 n)) := fun n => endAt_in G1.out n
      obtain ⟨g, off, rfl, hg, hc0⟩ := hT.at (show 0 < ws.length by omega)
      have HNM : Hid (∀ j (hj : j < ws.length), w.cell? ⟨g, off + j, none⟩ = some (.string (ws[j]'hj))) := hc0
      have HES : Hid (∀ i (h : i < ws.length), (endsL x.2 ws).getD i zC = endAt x.2 (ws[i]'h)) := fun i hi => by
        rw [List.getD_eq_getElem?_getD, List.getElem?_eq_getElem (by simp [endsL]; omega)]
        simp [endsL]
      have f0 := (hB2.cell (p := ⟨g, off + 0, none⟩) hg).trans (hc0 0 (by omega))
      rw [Nat.add_zero] at f0
      have HA1 := fun W hW => sAt x ao0 cap0 ao1 cap1 (ws[0]'(by omega)) W hW (HHAS.out 0 (by omega))
      have HE0 : Hid (alongTo (endsL x.2 ws) 0 = [endAt x.2 (ws[0]'(by omega))]) := by show [_] = _; rw [HES.out 0 (by omega)]
      have hgw : ¬ g = w.heap.size := by omega
      clear hc0 hT
      generalize ws[0]'(by omega) = n0 at *
      generalize endAt x.2 n0 = e0 at *
      obtain ⟨e0x, e0y⟩ := e0
      simp only [vCe] at HA1
      have hlI : (0 : Int) < (ws.length : Int) := by omega
      have hlN : 0 < ws.length := by omega
      go_wp2_with fail
      have HC0 : KC w.heap.size g off off (.slice ao0 x.1.length cap0) (.slice ao1 x.2.length cap1) n0 n0 w2.drew := KC.kept (W := w2) ⟨by have := HB2 0; simpa using this, by have := HB2 1; simpa using this, f0, f0⟩ rfl rfl
      have hB2d : Below w.heap.size w w2.drew := hB2.drew
      have hO2d := hO2.drew
      have hz2d : w.heap.size + 2 ≤ w2.drew.heap.size := hz2'
      have HB2d : BxC w.heap.size #[.slice ao0 x.1.length cap0, .slice ao1 x.2.length cap1] w2.drew := HB2
      refine wp_region_RC (KC w.heap.size g off off (.slice ao0 x.1.length cap0) (.slice ao1 x.2.length cap1) n0 n0) mixedP ?_
      generalize w2.drew = wd at *
      clear hB2 hO2 HB2 hz2' f0
      refine RC.take (i := 0) (v := .slice (some ⟨w.heap.size + 1, 0, none⟩) 0 0) rfl (by kernel_rfl) (by kernel_rfl) (by kernel_rfl) (fun _ _ _ h => h) HC0 (by kernel_rfl) ?ya0 ?ra0
      case ya0 => (intro W hW; clear hW HC0; go_simp)
      refine RC.take (i := 1) (v := .agg #[.slice ao0 x.1.length cap0, .slice ao1 x.2.length cap1]) rfl (by kernel_rfl) (by kernel_rfl) (by kernel_rfl) (fun _ _ _ h => h) HC0 (by kernel_rfl) ?ya1 ?ra1
      case ya1 => (intro W hW; obtain ⟨q0, q1, q2, q3⟩ := hW; clear HC0; go_simp)
      refine RC.take (i := 2) (v := .slice (some ⟨g, off, none⟩) ws.length capw) rfl (by kernel_rfl) (by kernel_rfl) (by kernel_rfl) (fun _ _ _ h => h) HC0 (by kernel_rfl) ?ya2 ?ra2
      case ya2 => (intro W hW; clear hW HC0; go_simp)
      refine RC.take (i := 3) (v := .pointer (some ⟨g, off, none⟩)) rfl (by kernel_rfl) (by kernel_rfl) (by kernel_rfl) (fun _ _ _ h => h) HC0 (by kernel_rfl) ?ya3 ?ra3
      case ya3 => (intro W hW; clear hW HC0; go_simp)
      refine RC.take (i := 4) (v := .string n0) rfl (by kernel_rfl) (by kernel_rfl) (by kernel_rfl) (fun _ _ _ h => h) HC0 (by kernel_rfl) ?ya4 ?ra4
      case ya4 => (intro W hW; obtain ⟨q0, q1, q2, q3⟩ := hW; clear HC0; go_simp)
      refine RC.want (i := 5) (by kernel_rfl) rfl (by kernel_rfl) (fun K hK => ?_)
      go_simp
      refine (HA1 _ (h.later hB2d)).mono ?_
      rintro e w3 ⟨rfl, hb3⟩
      simp only
      have HC3 := HC0.kept (hb3.block w.heap.size (by omega)) (hb3.block g (by omega))
      have hB3 := hB2d.trans (hb3.mono (by omega))
      have hO3 := kept_any hO2d hb3
      have hz3 : w.heap.size + 2 ≤ w3.heap.size := by have := hb3.size; omega
      have HB3 := HB2d.below hb3 (by omega)
      refine hK _ _ HC3 ?_
      clear hK K HC0 hB2d hO2d hb3 hz2d HA1 HB2d
      refine RC.want (i := 6) (by kernel_rfl) rfl (by kernel_rfl) (fun K hK => ?_)
      go_simp
      have hba : Below w3.heap.size w3 (w3.alloc (.cells #[.int .i64 e0x, .int .i64 e0y] 84)) := (Below.refl _ _).alloc (Nat.le_refl _) _
      have HC4 := HC3.kept (hba.block w.heap.size (by omega)) (hba.block g (by omega))
      refine hK _ _ HC4 ?_
      clear hK K HC3
      refine RC.want (i := 7) (by kernel_rfl) rfl (by kernel_rfl) (fun K hK => ?_)
      refine wpOp_append _ _ _ 78 rfl (w.heap.size + 1) 84 i0 (.agg #[.int .i64 0, .int .i64 0]) 2 16 Tryz.underlying78 hi hz0 hz1 hz2 rfl (by decide) (.slice (some ⟨w.heap.size + 1, 0, none⟩) 0 0) 0 _ rfl (hO3.alloc _) ⟨w3.heap.size, 0, none⟩ 1 1 [.int .i64 e0x, .int .i64 e0y] rfl rfl (fun j u hj => by
          match j, hj with
          | 0, hj => simp at hj; subst hj; simp [Addr.add]
          | 1, hj => simp at hj; subst hj; simp [Addr.add]) (fun u hu => by
          simp at hu
          rcases hu with rfl | rfl <;> rfl) (by unfold maxLen; omega) (by omega) (by simp; omega) ?_
      intro v' w6 hown' hgrow _
      obtain ⟨g', cap', rfl⟩ := owns_pos hown'
      have hbg : Below (w.heap.size + 1) w3 w6 := ((Below.refl _ w3).alloc (by omega) _).grown hgrow (by simp; omega) (by intro k hk; simp [Value.ownBlock] at hk; omega)
      have HC6 : KC w.heap.size g off off (.slice ao0 x.1.length cap0) (.slice ao1 x.2.length cap1) n0 n0 w6 := by
        have e : ∀ q, q < w.heap.size + 1 → w6.heap[q]? = w3.heap[q]? := fun q hq => hbg.block q hq
        exact (HC4.kept (W' := w6) ((e _ (by omega)).trans (hba.block w.heap.size (by omega)).symm) ((e _ (by omega)).trans (hba.block g (by omega)).symm))
      have hB6 := hB3.trans (hbg.mono (by omega))
      have HB6 := HB3.below hbg (by omega)
      have hz6 : w.heap.size + 2 ≤ w6.heap.size := by have := hbg.size; omega
      have HO6 : Hid (w6.ownsRow (w.heap.size + 1) 84 2 (.slice (some ⟨g', 0, none⟩) (alongTo (endsL x.2 ws) 0).length cap') (alongTo (endsL x.2 ws) 0).length (valsPlanCell (alongTo (endsL x.2 ws) 0))) := by
        show World.ownsRow _ _ _ _ _ _ _
        rw [HE0.out]
        exact hown'
      have HV6 : Hid ((alongTo (endsL x.2 ws) 0).length = 1) := by show _ = _; rw [HE0.out]; rfl
      refine hK _ _ HC6 ?_
      clear hK K HC4 hown' hgrow hbg hba hO3 hB3 HB3 HE0
      refine RC.take (i := 8) (v := .slice (some ⟨g', 0, none⟩) 1 cap') rfl (by kernel_rfl) (by kernel_rfl) (by kernel_rfl) (fun _ _ _ h => h) HC6 (by kernel_rfl) ?ya8 ?ra8
      case ya8 => (intro W hW; clear hW HC6; go_simp)
      refine RC.done (by kernel_rfl) ?_
      clear HC6
      have HLEN : Hid (∀ k, 1 ≤ (alongTo (endsL x.2 ws) k).length ∧ (alongTo (endsL x.2 ws) k).length ≤ 1 + 15 * k) := fun k => along_len (ends_in G1.out ws) k
      go_wp2_with fail
      go_loopw [6, 7] (fun u i wr => ∃ (m : Nat) (v : Value), 1 ≤ m ∧ m ≤ ws.length ∧ i = .int .i64 m ∧ v = u ∧ Hid (v = .slice v.addrOf (alongTo (endsL x.2 ws) (m - 1)).length v.capOf) ∧ wr.ownsRow (w.heap.size + 1) 84 2 v (alongTo (endsL x.2 ws) (m - 1)).length (valsPlanCell (alongTo (endsL x.2 ws) (m - 1))) ∧ Below w.heap.size w wr ∧ w.heap.size + 2 ≤ wr.heap.size ∧ BxC w.heap.size #[.slice ao0 x.1.length cap0, .slice ao1 x.2.length cap1] wr) (fun _ i _ => ws.length - (intOf i).toNat)
      case atStart =>
        refine ⟨1, .slice (some ⟨g', 0, none⟩) 1 cap', Nat.le_refl _, by omega, rfl, rfl, ?_, ?_, hB6, hz6, HB6⟩
        · show _ = _; rw [HV6.out]; rfl
        · have := HO6.out
          rw [HV6.out] at this
          rw [HV6.out]
          exact this
      case round =>
        clear HO6 HV6 hB6 HB6 hz6
        obtain ⟨m, v, hm1, hm2, rfl, hv, hvs, hown, hB, hs, HX⟩ := hrel
        subst hv
        by_cases hlt : m < ws.length
        · obtain ⟨j, hj⟩ : ∃ j, j = m - 1 := ⟨_, rfl⟩
          have hjl : j < ws.length := by omega
          have hjm : m = j + 1 := by omega
          rw [← hj] at hown
          clear hvs
          have ej : (m : Int) - 1 = (j : Int) := by omega
          have hwj : IntKind.i64.wrap (j : Int) = (j : Int) := by rw [IntKind.wrap_i64]; all_goals omega
          have hmI : (m : Int) < (ws.length : Int) := by omega
          have hjI : (j : Int) < (ws.length : Int) := by omega
          have hnj : (ws.length ≤ j) = False := by simp; omega
          have hnm : (ws.length ≤ m) = False := by simp; omega
          have HJ : Hid (alongTo (endsL x.2 ws) m = alongTo (endsL x.2 ws) j ++ (legOf (endAt x.2 (ws[j]'hjl)) (endAt x.2 (ws[m]'hlt))).drop 1) := by
            show _ = _
            rw [← HES.out j hjl, ← HES.out m hlt]
            subst hjm
            rfl
          have d0 := (hB.cell (p := ⟨g, off + j, none⟩) hg).trans (HNM.out j hjl)
          have d1 := (hB.cell (p := ⟨g, off + m, none⟩) hg).trans (HNM.out m hlt)
          have HS1 := fun W hW => sAt x ao0 cap0 ao1 cap1 (ws[j]'hjl) W hW (HHAS.out j hjl)
          have HS2 := fun W hW => sAt x ao0 cap0 ao1 cap1 (ws[m]'hlt) W hW (HHAS.out m hlt)
          have HI1 := HIN.out (ws[j]'hjl)
          have HI2 := HIN.out (ws[m]'hlt)
          obtain ⟨hL1, hL2⟩ := HLEN.out j
          generalize ws[j]'hjl = nj at *
          generalize ws[m]'hlt = nm at *
          obtain ⟨hG1, hG2⟩ := leg_len HI1 HI2
          have HSL := fun W => sLeg17 _ _ W HI1 HI2
          generalize endAt x.2 nj = pj at *
          generalize endAt x.2 nm = pm at *
          generalize legOf pj pm = LG at *
          obtain ⟨pjx, pjy⟩ := pj
          obtain ⟨pmx, pmy⟩ := pm
          simp only [vCe] at HS1 HS2 HSL
          generalize alongTo (endsL x.2 ws) j = AL at *
          have hge1 := own_ge hown
          have hgr : g < wr.heap.size := by omega
          have HJM : Hid (j + 1 = m) := hjm.symm
          clear hj HI1 HI2 hjm
          go_wp2_with fail
          have HC0 : KC w.heap.size g (off + j) (off + m) (.slice ao0 x.1.length cap0) (.slice ao1 x.2.length cap1) nj nm wr.drew := KC.kept (W := wr) ⟨by have := HX 0; simpa using this, by have := HX 1; simpa using this, d0, d1⟩ rfl rfl
          have hBd : Below w.heap.size w wr.drew := hB.drew
          have hownd := hown.drew
          have hsd : w.heap.size + 2 ≤ wr.drew.heap.size := hs
          have HXd : BxC w.heap.size #[.slice ao0 x.1.length cap0, .slice ao1 x.2.length cap1] wr.drew := HX
          refine wp_region_RC (KC w.heap.size g (off + j) (off + m) (.slice ao0 x.1.length cap0) (.slice ao1 x.2.length cap1) nj nm) mixedP ?_
          generalize wr.drew = wd at *
          clear d0 d1 hB hown HX hs
          refine RC.take (i := 0) (v := v) rfl (by kernel_rfl) (by kernel_rfl) (by kernel_rfl) (fun _ _ _ h => h) HC0 (by kernel_rfl) ?yd0 ?rd0
          case yd0 => (intro W hW; clear hW HC0 hownd hBd HXd; go_simp)
          refine RC.take (i := 1) (v := .agg #[.slice ao0 x.1.length cap0, .slice ao1 x.2.length cap1]) rfl (by kernel_rfl) (by kernel_rfl) (by kernel_rfl) (fun _ _ _ h => h) HC0 (by kernel_rfl) ?yd1 ?rd1
          case yd1 => (intro W hW; obtain ⟨q0, q1, q2, q3⟩ := hW; clear HC0 hownd hBd HXd; go_simp)
          refine RC.take (i := 2) (v := .slice (some ⟨g, off, none⟩) ws.length capw) rfl (by kernel_rfl) (by kernel_rfl) (by kernel_rfl) (fun _ _ _ h => h) HC0 (by kernel_rfl) ?yd2 ?rd2
          case yd2 => (intro W hW; clear hW HC0 hownd hBd HXd; go_simp)
          refine RC.take (i := 3) (v := .int .i64 (m : Int)) rfl (by kernel_rfl) (by kernel_rfl) (by kernel_rfl) (fun _ _ _ h => h) HC0 (by kernel_rfl) ?yd3 ?rd3
          case yd3 => (intro W hW; clear hW HC0 hownd hBd HXd; go_simp)
          refine RC.take (i := 4) (v := .int .i64 (j : Int)) rfl (by kernel_rfl) (by kernel_rfl) (by kernel_rfl) (fun _ _ _ h => h) HC0 (by kernel_rfl) ?yd4 ?rd4
          case yd4 => (intro W hW; clear hW HC0 hownd hBd HXd; go_simp)
          refine RC.take (i := 5) (v := .pointer (some ⟨g, off + j, none⟩)) rfl (by kernel_rfl) (by kernel_rfl) (by kernel_rfl) (fun _ _ _ h => h) HC0 (by kernel_rfl) ?yd5 ?rd5
          case yd5 => (intro W hW; clear hW HC0 hownd hBd HXd; go_simp)
          refine RC.take (i := 6) (v := .string nj) rfl (by kernel_rfl) (by kernel_rfl) (by kernel_rfl) (fun _ _ _ h => h) HC0 (by kernel_rfl) ?yd6 ?rd6
          case yd6 => (intro W hW; obtain ⟨q0, q1, q2, q3⟩ := hW; clear HC0 hownd hBd HXd; go_simp)
          refine RC.take (i := 8) (v := .agg #[.slice ao0 x.1.length cap0, .slice ao1 x.2.length cap1]) rfl (by kernel_rfl) (by kernel_rfl) (by kernel_rfl) (fun _ _ _ h => h) HC0 (by kernel_rfl) ?yd8 ?rd8
          case yd8 => (intro W hW; obtain ⟨q0, q1, q2, q3⟩ := hW; clear HC0 hownd hBd HXd; go_simp)
          refine RC.take (i := 9) (v := .slice (some ⟨g, off, none⟩) ws.length capw) rfl (by kernel_rfl) (by kernel_rfl) (by kernel_rfl) (fun _ _ _ h => h) HC0 (by kernel_rfl) ?yd9 ?rd9
          case yd9 => (intro W hW; clear hW HC0 hownd hBd HXd; go_simp)
          refine RC.take (i := 10) (v := .int .i64 (m : Int)) rfl (by kernel_rfl) (by kernel_rfl) (by kernel_rfl) (fun _ _ _ h => h) HC0 (by kernel_rfl) ?yd10 ?rd10
          case yd10 => (intro W hW; clear hW HC0 hownd hBd HXd; go_simp)
          refine RC.take (i := 11) (v := .pointer (some ⟨g, off + m, none⟩)) rfl (by kernel_rfl) (by kernel_rfl) (by kernel_rfl) (fun _ _ _ h => h) HC0 (by kernel_rfl) ?yd11 ?rd11
          case yd11 => (intro W hW; clear hW HC0 hownd hBd HXd; go_simp)
          refine RC.take (i := 12) (v := .string nm) rfl (by kernel_rfl) (by kernel_rfl) (by kernel_rfl) (fun _ _ _ h => h) HC0 (by kernel_rfl) ?yd12 ?rd12
          case yd12 => (intro W hW; obtain ⟨q0, q1, q2, q3⟩ := hW; clear HC0 hownd hBd HXd; go_simp)
          refine RC.want (i := 7) (by kernel_rfl) rfl (by kernel_rfl) (fun K hK => ?_)
          go_simp
          refine (HS1 _ (h.later hBd)).mono ?_
          rintro e w3 ⟨rfl, hb3⟩
          simp only
          have HC3 := HC0.kept (hb3.block w.heap.size (by omega)) (hb3.block g (by omega))
          have hown3 := kept_any hownd hb3
          have hB3 := hBd.trans (hb3.mono (by omega))
          have hs3 : w.heap.size + 2 ≤ w3.heap.size := Nat.le_trans hsd hb3.size
          have HX3 := HXd.below hb3 (by omega)
          refine hK _ _ HC3 ?_
          clear hK K HC0 hownd hBd hsd HXd hb3
          have HC0 := HC3
          have hownd := hown3
          have hBd := hB3
          have hsd := hs3
          have HXd := HX3
          clear HC3 hown3 hB3 hs3 HX3
          refine RC.want (i := 13) (by kernel_rfl) rfl (by kernel_rfl) (fun K hK => ?_)
          go_simp
          refine (HS2 _ (h.later hBd)).mono ?_
          rintro e w4 ⟨rfl, hb3⟩
          simp only
          have HC3 := HC0.kept (hb3.block w.heap.size (by omega)) (hb3.block g (by omega))
          have hown3 := kept_any hownd hb3
          have hB3 := hBd.trans (hb3.mono (by omega))
          have hs3 : w.heap.size + 2 ≤ w4.heap.size := Nat.le_trans hsd hb3.size
          have HX3 := HXd.below hb3 (by omega)
          refine hK _ _ HC3 ?_
          clear hK K HC0 hownd hBd hsd HXd hb3
          have HC0 := HC3
          have hownd := hown3
          have hBd := hB3
          have hsd := hs3
          have HXd := HX3
          clear HC3 hown3 hB3 hs3 HX3
          refine RC.want (i := 14) (by kernel_rfl) rfl (by kernel_rfl) (fun K hK => ?_)
          go_simp
          refine (HSL _).mono ?_
          rintro e w5 ⟨v5, rfl, hOL, hb3⟩
          simp only
          have HC3 := HC0.kept (hb3.block w.heap.size (by omega)) (hb3.block g (by omega))
          have hown3 := kept_any hownd hb3
          have hB3 := hBd.trans (hb3.mono (by omega))
          have hs3 : w.heap.size + 2 ≤ w5.heap.size := Nat.le_trans hsd hb3.size
          have HX3 := HXd.below hb3 (by omega)
          refine hK _ _ HC3 ?_
          clear hK K HC0 hownd hBd hsd HXd hb3
          have HC0 := HC3
          have hownd := hown3
          have hBd := hB3
          have hsd := hs3
          have HXd := HX3
          clear HC3 hown3 hB3 hs3 HX3
          obtain ⟨gl, cl, rfl⟩ : ∃ gl cl, v5 = .slice (some ⟨gl, 0, none⟩) LG.length cl := by
            rcases hOL.2 with ⟨_, h0⟩ | ⟨g, c, _, h1, _⟩
            · omega
            · exact ⟨g, c, h1⟩
          obtain ⟨hgl, hgl2, hcl, hcm⟩ := owned_block hOL
          unfold maxLen at hcm
          obtain ⟨ad, had, had2⟩ : ∃ ad : Addr, (if cl = 1 then some (⟨gl, 0, none⟩ : Addr) else some ⟨gl, 2, none⟩) = some ad ∧ (cl = 1 ∨ ad = ⟨gl, 2, none⟩) := by
            by_cases hcl1 : cl = 1
            · exact ⟨⟨gl, 0, none⟩, by rw [if_pos hcl1], .inl hcl1⟩
            · exact ⟨⟨gl, 2, none⟩, by rw [if_neg hcl1], .inr rfl⟩
          have HAD : Hid _ := had2
          have hLGI : (1 : Int) ≤ (LG.length : Int) := by omega
          clear had2 HS1 HS2 HSL
          refine RC.take (i := 15) (v := .slice (some ad) (LG.length - 1) (cl - 1)) rfl (by kernel_rfl) (by kernel_rfl) (by kernel_rfl) (fun _ _ _ h => h) HC0 (by kernel_rfl) ?yd15 ?rd15
          case yd15 =>
            intro W hW
            clear hW HC0 hownd hBd HXd hOL HAD
            have HAD : Hid _ := had
            clear had
            go_simp
            exact HAD.out
          have hnews : ∀ j u, (valsPlanCell (LG.drop 1))[j]? = some u → w5.cell? (ad.add j) = some u := fun j u hj => by
            rcases HAD.out with h1 | h1
            · have e : LG.drop 1 = [] := by rw [List.drop_eq_nil_iff]; omega
              rw [e] at hj
              simp [valsPlanCell] at hj
            · have hcs := hOL.cells (g := gl) rfl (2 + j) u (by rw [← hj, vals_drop1 LG, List.getElem?_drop])
              have e1 : (⟨gl, 0, none⟩ : Addr).add (2 + j) = ⟨gl, 2 + j, none⟩ := by simp [Addr.add]
              have e2 : (⟨gl, 2, none⟩ : Addr).add j = ⟨gl, 2 + j, none⟩ := by
                unfold Addr.add
                split
                · simp_all
                · rfl
              rw [h1, e2, ← e1]
              exact hcs
          have hnl : (valsPlanCell (LG.drop 1)).length = (LG.length - 1) * 2 := by rw [valsPlanCell_len, List.length_drop]
          refine RC.want (i := 16) (by kernel_rfl) rfl (by kernel_rfl) (fun K hK => ?_)
          refine wpOp_append _ _ _ 78 rfl (w.heap.size + 1) 84 i0 (.agg #[.int .i64 0, .int .i64 0]) 2 16 Tryz.underlying78 hi hz0 hz1 hz2 rfl (by decide) v AL.length _ rfl hownd ad (LG.length - 1) (cl - 1) (valsPlanCell (LG.drop 1)) rfl hnl hnews (fun u hu => by
              simp only [valsPlanCell, List.mem_flatMap] at hu
              obtain ⟨c, _, hu⟩ := hu
              simp at hu
              rcases hu with rfl | rfl <;> rfl) (by unfold maxLen; omega) (by omega) (by omega) ?_
          intro v' w6 hown' hgrow _
          have hne : ∀ b, v.ownBlock = some b → w.heap.size + 1 ≤ b := hge1
          have hb6 : ∀ q, q < w5.heap.size → q < w.heap.size + 1 → w6.heap[q]? = w5.heap[q]? := fun q hq hor => hgrow.block q hq (fun e => by have := hne q e.symm; omega)
          have HC6 := HC0.kept (hb6 w.heap.size (by omega) (by omega)) (hb6 g (by omega) (by omega))
          have hB56 : Below (w.heap.size + 1) w5 w6 := (Below.refl _ _).grown hgrow (by omega) (by intro q hq; exact hge1 q hq)
          have HX6 := HXd.below hB56 (by omega)
          have hB6 : Below w.heap.size w w6 := hBd.trans (hB56.mono (by omega))
          have hs6 : w.heap.size + 2 ≤ w6.heap.size := Nat.le_trans hsd hgrow.size
          have HO6 : Hid (w6.ownsRow (w.heap.size + 1) 84 2 v' (alongTo (endsL x.2 ws) m).length (valsPlanCell (alongTo (endsL x.2 ws) m))) := by
            show World.ownsRow _ _ _ _ _ _ _
            rw [HJ.out, List.length_append, List.length_drop, valsPlanCell_app]
            exact hown'
          have HVS : Hid (v' = .slice v'.addrOf (alongTo (endsL x.2 ws) m).length v'.capOf) := by
            rcases HO6.out.2 with ⟨e1, e2⟩ | ⟨_, _, _, e1, _⟩
            · rw [e1]; show Value.slice none 0 0 = Value.slice none _ 0; rw [e2]
            · rw [e1]; rfl
          refine hK _ _ HC6 ?_
          clear hK K HC0 hownd hown' hgrow hBd hb6 hne HXd hsd hOL hnews hnl HAD had hB56
          refine RC.take (i := 17) (v := v') rfl (by kernel_rfl) (by kernel_rfl) (by kernel_rfl) (fun _ _ _ h => h) HC6 (by kernel_rfl) ?yd17 ?rd17
          case yd17 => (intro W hW; clear hW HC6 HX6 HO6 HVS; go_simp)
          refine RC.done (by kernel_rfl) ?_
          clear HC6 HJ hge1
          go_wp2
          go_roundw
          case rel => exact ⟨m + 1, v', by omega, by omega, by go_num, rfl, HVS, HO6.out, hB6, hs6, HX6⟩
          case measure => simp [intOf]; omega
        · have hme : m = ws.length := by omega
          subst hme
          have HCR : Hid (cellsR x.2 ws = alongTo (endsL x.2 ws) (ws.length - 1)) := rfl
          have HY : Hid ((cellsR x.2 ws).length ≤ 40 → pb (CellsOk x ws) = true ∧ cellsOf x ws = cellsR x.2 ws) := fun hl => cells_yes ⟨G1.out, G2.out, hl⟩
          have HN : Hid (¬ (cellsR x.2 ws).length ≤ 40 → pb (CellsOk x ws) = false ∧ cellsOf x ws = []) := fun hl => cells_no (fun h => hl h.2.2)
          have hvs' := hvs.out
          clear hvs
          rw [← HCR.out] at hown hvs'
          obtain ⟨hL1, hL2⟩ := HLEN.out (ws.length - 1)
          rw [← HCR.out] at hL1 hL2
          clear G1 G2 HCR HLEN HES
          generalize cellsR x.2 ws = R at *
          obtain ⟨av, cv, hav⟩ : ∃ av cv, v = .slice av R.length cv := ⟨_, _, hvs'⟩
          subst hav
          have HO : Hid (wr.ownsRow w.heap.size 84 2 (.slice av R.length cv) R.length (valsPlanCell R)) := own_lo hown (by omega)
          clear hown hvs'
          by_cases hl : R.length ≤ 40
          · have HR : Hid _ := HY.out hl
            clear HY HN
            go_wp2
            refine bodyPost_ret (v := .tuple #[.slice av R.length cv, .bool true]) (by simp [results, Tryz.results39, go_sem]) rfl ?_
            exact ⟨av, cv, by rw [HR.out.1, HR.out.2], by rw [HR.out.2]; exact HO.out, hB⟩
          · have HR : Hid _ := HN.out hl
            clear HY HN
            go_wp2
            refine bodyPost_ret (v := .tuple #[.slice (some ⟨wr.heap.size, 0, none⟩) 0 0, .bool false]) (by simp [results, Tryz.results39, go_sem]) rfl ?_
            exact ⟨some ⟨wr.heap.size, 0, none⟩, 0, by rw [HR.out.1, HR.out.2]; rfl, by rw [HR.out.2]; exact empty_cells wr 84 w.heap.size hB.size, hB.alloc hB.size _⟩
    · rw [pb_no g2]
      have HR : Hid (pb (CellsOk x ws) = false ∧ cellsOf x ws = []) := cells_no (fun h => g2 h.2.1)
      have HO : Hid (w2.ownsRow w.heap.size 84 2 (.slice (some ⟨w.heap.size + 1, 0, none⟩) 0 0) 0 []) := own_lo hO2 (by omega)
      clear g2 HB2 hO2
      go_wp2
      refine bodyPost_ret (v := .tuple #[.slice (some ⟨w.heap.size + 1, 0, none⟩) 0 0, .bool false]) (by simp [results, Tryz.results39, go_sem]) rfl ?_
      exact ⟨_, 0, by rw [HR.out.1, HR.out.2]; rfl, by rw [HR.out.2]; exact HO.out, hB2⟩
  · rw [pb_no g1]
    have HR : Hid (pb (CellsOk x ws) = false ∧ cellsOf x ws = []) := cells_no (fun h => g1 h.1)
    have HO : Hid (w1.ownsRow w.heap.size 84 2 (.slice (some ⟨w.heap.size + 1, 0, none⟩) 0 0) 0 []) := own_lo hO1 (by omega)
    clear g1 HB1 hO1 x0 x1
    go_wp2
    refine bodyPost_ret (v := .tuple #[.slice (some ⟨w.heap.size + 1, 0, none⟩) 0 0, .bool false]) (by simp [results, Tryz.results39, go_sem]) rfl ?_
    exact ⟨_, 0, by rw [HR.out.1, HR.out.2]; rfl, by rw [HR.out.2]; exact HO.out, hB1⟩

end Pcl
end Go.Proofs.YtgnjkpmbppmoeaaGreat
