/- DERIVED. impl.planEndsOf: its walk. -/
import Derived.Test.YtgnjkpmbppmoeaaGreatKPq4
import Derived.Test.YtgnjkpmbppmoeaaGreatKGFd
import Derived.Test.YtgnjkpmbppmoeaaGreatKGIm
import Derived.Test.YtgnjkpmbppmoeaaGreatKGPj
namespace Go.Proofs.YtgnjkpmbppmoeaaGreat
namespace Pcl
open Go.RowKit Leg
set_option linter.unusedSimpArgs false
set_option linter.unusedVariables false

noncomputable def endAt (ps : List DPlanPoint) (n : ByteArray) : DCell := ((findD nmP zP ps n).2.1, (findD nmP zP ps n).2.2)
noncomputable def endsL (ps : List DPlanPoint) (ws : List ByteArray) : List DCell := ws.map (endAt ps)

set_option maxRecDepth 100000 in
set_option maxHeartbeats 4000000 in
theorem iEnds (ao : Option Addr) (cap : Nat) (ps : List DPlanPoint) (aw : Option Addr) (capw : Nat) (ws : List ByteArray) (w : World) (h : SliceAt vPlanPoint (old w) w ao cap ps) (hT : TxO w aw ws) (hwl : ws.length ≤ 1000) :
    Calls Tryz.prog 84 #[.slice ao ps.length cap, .slice aw ws.length capw] w fun e w' => ∃ ao' cap', e = .returned (.slice ao' ws.length cap') ∧ w'.ownsRow w.heap.size 84 2 (.slice ao' ws.length cap') ws.length (valsPlanCell (endsL ps ws)) ∧ Below w.heap.size w w' := by
  obtain ⟨i0, hi, hz0, hz1, hz2⟩ := info_parts infoPC
  go_enter Tryz.func84, Tryz.ntmps84
  go_wp2
  go_loopw [5, 12] (fun v i wr => ∃ k ao' cap', k ≤ ws.length ∧ i = .int .i64 k ∧ v = .slice ao' k cap' ∧ wr.ownsRow w.heap.size 84 2 (.slice ao' k cap') k (valsPlanCell ((endsL ps ws).take k)) ∧ Below w.heap.size w wr) (fun _ i _ => ws.length - (intOf i).toNat)
  case atStart => exact ⟨0, none, 0, Nat.zero_le _, rfl, rfl, World.ownsRow_nil _ _ _ _, Below.refl _ _⟩
  case round =>
    obtain ⟨k, ao', cap', hk, rfl, rfl, hO, hB⟩ := hrel
    have hsz := hB.size
    by_cases hlt : k < ws.length
    · obtain ⟨g, off, rfl, hg, hc⟩ := (hT.later hB).at hlt
      have f0 := hc k hlt
      have hkI : (k : Int) < (ws.length : Int) := by omega
      have HTK : Hid ((endsL ps ws).take (k + 1) = (endsL ps ws).take k ++ [endAt ps (ws[k]'hlt)]) := by
        show _ = _
        rw [List.take_succ_eq_append_getElem (by simp [endsL]; omega)]
        simp [endsL]
      clear hc hT
      generalize ws[k]'hlt = wk at *
      have HF := find_PlanPoint ao cap ps wk wr (h.later hB)
      have HEA : Hid (endAt ps wk = ((findD nmP zP ps wk).2.1, (findD nmP zP ps wk).2.2)) := rfl
      obtain ⟨r, hr⟩ : ∃ r, r = findD nmP zP ps wk := ⟨_, rfl⟩
      rw [← hr] at HF HEA
      clear hr
      obtain ⟨n, x, y⟩ := r
      simp only at HF HEA
      go_wp2_with fail
      refine HF.mono ?_
      rintro e w2 ⟨rfl, hb2⟩
      have hB2 := hB.trans (hb2.mono hsz)
      have hO2 := owns_below hO hb2
      have hz2' := hB2.size
      clear HF hb2 hO hB f0
      go_wp2_with fail
      refine (ptCell n x y _).mono ?_
      rintro e w3 ⟨rfl, hb3⟩
      have hB3 := (hB2.alloc hB2.size (.cells #[.string n, .int .i64 x, .int .i64 y] 93)).trans (hb3.mono (by simp; omega))
      have hO3 := owns_below (hO2.alloc (.cells #[.string n, .int .i64 x, .int .i64 y] 93)) hb3
      have hz3 := hB3.size
      clear hb3 hO2 hB2
      go_wp2_with (at_builtin; refine wpList_append_own _ rfl _ _ 78 rfl w.heap.size 84 i0 (.agg #[.int .i64 0, .int .i64 0]) 2 16 Tryz.underlying78 hi hz0 hz1 hz2 rfl (by decide) _ _ _ rfl (hO3.alloc _) ⟨w3.heap.size, 0, none⟩ 1 1 [.int .i64 x, .int .i64 y] rfl rfl ?c1 ?c2 ?c3 ?c4 ?c5 ?_)
      case c1 =>
        intro j u hj
        match j, hj with
        | 0, hj => simp at hj; subst hj; simp [Addr.add]
        | 1, hj => simp at hj; subst hj; simp [Addr.add]
      case c2 =>
        intro u hu
        simp at hu
        rcases hu with rfl | rfl <;> rfl
      case c3 => unfold maxLen; omega
      case c4 => omega
      case c5 => simp; omega
      intro v' w4 hown' hgrow _
      obtain ⟨g', cap2, rfl⟩ := owns_pos hown'
      have hB4 : Below w.heap.size w w4 := (hB3.alloc hB3.size _).grown hgrow (by simp; omega) (fun j hj => own_ge hO3 j hj)
      have hO4 : w4.ownsRow w.heap.size 84 2 (.slice (some ⟨g', 0, none⟩) (k + 1) cap2) (k + 1) (valsPlanCell ((endsL ps ws).take (k + 1))) := by
        rw [HTK.out, HEA.out, valsPlanCell_snoc]
        exact hown'
      have HO4 : Hid _ := hO4
      clear hown' hgrow hO3 hB3 hO4
      go_wp2
      go_roundw
      case rel => exact ⟨k + 1, _, _, by omega, by go_num, rfl, HO4.out, hB4⟩
      case measure => simp [intOf]; omega
    · have hke : k = ws.length := by omega
      subst hke
      have HO : Hid (wr.ownsRow w.heap.size 84 2 (.slice ao' ws.length cap') ws.length (valsPlanCell (endsL ps ws))) := by
        rw [List.take_of_length_le (by simp [endsL])] at hO
        exact hO
      clear hO
      go_wp2
      go_ret
      exact ⟨ao', cap', rfl, HO.out, hB⟩

end Pcl
end Go.Proofs.YtgnjkpmbppmoeaaGreat

/- DERIVED. impl.PlanCells: its walk. -/
namespace Go.Proofs.YtgnjkpmbppmoeaaGreat
namespace Pcl
open Go.RowKit Leg
set_option linter.unusedSimpArgs false
set_option linter.unusedVariables false

/-- The cells along a route, whether or not they are too many. -/
noncomputable def cellsR (ps : List DPlanPoint) (ws : List ByteArray) : List DCell := alongTo (endsL ps ws) (ws.length - 1)
def CellsOk (x : DPlanBase) (ws : List ByteArray) : Prop := BaseOk x ∧ RouteOk x.2 ws ∧ (cellsR x.2 ws).length ≤ 40
noncomputable def cellsOf (x : DPlanBase) (ws : List ByteArray) : List DCell := if pb (CellsOk x ws) then cellsR x.2 ws else []

theorem zC_in : InLeg zC := ⟨⟨by decide, by decide⟩, by decide, by decide⟩
theorem endAt_in {x : DPlanBase} (h : BaseOk x) (n : ByteArray) : InLeg (endAt x.2 n) := by
  have hz : InLeg (zP.2.1, zP.2.2) := zC_in
  have hall : ∀ p ∈ x.2, InLeg (p.2.1, p.2.2) := by
    intro p hp
    obtain ⟨i, hi, rfl⟩ := List.mem_iff_getElem.1 hp
    have hp := (h.2.2.1 i hi hi).1
    exact ⟨hp.2.1, hp.2.2⟩
  have key : ∀ l : List DPlanPoint, (∀ p ∈ l, InLeg (p.2.1, p.2.2)) → InLeg ((findD nmP zP l n).2.1, (findD nmP zP l n).2.2) := by
    intro l
    induction l with
    | nil => intro _; exact hz
    | cons p l ih =>
      intro hl
      show InLeg ((if pb (nmP p = n) then p else findD nmP zP l n).2.1, (if pb (nmP p = n) then p else findD nmP zP l n).2.2)
      split
      · exact hl p (by simp)
      · exact ih (fun q hq => hl q (by simp [hq]))
  exact key x.2 hall
theorem ends_in {x : DPlanBase} (h : BaseOk x) (ws : List ByteArray) (i : Nat) : InLeg ((endsL x.2 ws).getD i zC) := by
  rw [List.getD_eq_getElem?_getD]
  by_cases hi : i < (endsL x.2 ws).length
  · rw [List.getElem?_eq_getElem hi]
    simp only [Option.getD_some, endsL, List.getElem_map]
    exact endAt_in h _
  · rw [List.getElem?_eq_none (by omega)]
    exact zC_in

theorem own_lo {W : World} {b b' : Nat} {e : TypeId} {size k : Nat} {v : Value} {xs : List Value} (h : W.ownsRow b e size v k xs) (hb : b' ≤ b) : W.ownsRow b' e size v k xs := by
  refine ⟨h.1, ?_⟩
  rcases h.2 with h1 | ⟨g, cap, cur, h1, h2, h3⟩
  · exact .inl h1
  · exact .inr ⟨g, cap, cur, h1, Nat.le_trans hb h2, h3⟩

/-- What a call of PlanCells leaves. -/
def GivesC (x : DPlanBase) (ws : List ByteArray) (w : World) (e : Ending) (w' : World) : Prop :=
  ∃ ao cap, e = .returned (.tuple #[.slice ao (cellsOf x ws).length cap, .bool (pb (CellsOk x ws))]) ∧ w'.ownsRow w.heap.size 84 2 (.slice ao (cellsOf x ws).length cap) (cellsOf x ws).length (valsPlanCell (cellsOf x ws)) ∧ Below w.heap.size w w'

theorem cells_no {x : DPlanBase} {ws : List ByteArray} (h : ¬ CellsOk x ws) : pb (CellsOk x ws) = false ∧ cellsOf x ws = [] := by
  have e := pb_no h
  exact ⟨e, by unfold cellsOf; rw [e]; rfl⟩
theorem cells_yes {x : DPlanBase} {ws : List ByteArray} (h : CellsOk x ws) : pb (CellsOk x ws) = true ∧ cellsOf x ws = cellsR x.2 ws := by
  have e := pb_yes h
  exact ⟨e, by unfold cellsOf; rw [e]; rfl⟩

set_option maxRecDepth 100000 in
set_option maxHeartbeats 4000000 in
theorem iCells (x : DPlanBase) (ao0 : Option Addr) (cap0 : Nat) (ao1 : Option Addr) (cap1 : Nat) (aw : Option Addr) (capw : Nat) (ws : List ByteArray) (w : World) (h : BaseAt w x ao0 cap0 ao1 cap1) (hT : TxO w aw ws) (hwl : ws.length ≤ 1048577) :
    Calls Tryz.prog 43 #[.agg #[.slice ao0 x.1.length cap0, .slice ao1 x.2.length cap1], .slice aw ws.length capw] w (GivesC x ws w) := by
  have hb0 : Below w.heap.size w (w.alloc (.cells #[.slice ao0 x.1.length cap0, .slice ao1 x.2.length cap1] 40)) := (Below.refl _ _).alloc (Nat.le_refl _) _
  have HB0 := BxC.new w #[.slice ao0 x.1.length cap0, .slice ao1 x.2.length cap1] 40
  unfold GivesC
  go_enter Tryz.func43, Tryz.ntmps43
  go_wp2_with fail
  have hA0 := h.later hb0
  refine (iBase x ao0 cap0 ao1 cap1 _ hA0.p0 hA0.p1).mono ?_
  rintro e w1 ⟨rfl, hb1⟩
  have hB1 := hb0.trans (hb1.mono hb0.size)
  have HB1 := HB0.below hb1 (by simp)
  have hz1 : w.heap.size < w1.heap.size := by have := hb1.size; simp at this; omega
  clear hb1 hb0 HB0 hA0
  have x0 := HB1 0
  have x1 := HB1 1
  simp at x0 x1
  by_cases g1 : BaseOk x
  · rw [pb_yes g1]
    have G1 : Hid (BaseOk x) := g1
    clear g1
    go_wp2_with fail
    refine (iRouteO ao1 cap1 x.2 aw capw ws _ (h.later hB1).p1 (hT.later hB1) hwl).mono ?_
    rintro e w2 ⟨rfl, hb2⟩
    have hB2 := hB1.trans (hb2.mono hB1.size)
    have HB2 := HB1.below hb2 hz1
    have hz2 : w.heap.size < w2.heap.size := by have := hb2.size; omega
    clear hb2 HB1 x0 x1 hB1 hz1
    have x0 := HB2 0
    have x1 := HB2 1
    simp at x0 x1
    by_cases g2 : RouteOk x.2 ws
    · rw [pb_yes g2]
      have hr := g2.1
      have hr1 := hr.1
      have hr2 := hr.2
      have G2 : Hid (RouteOk x.2 ws) := g2
      clear g2 hr
      go_wp2_with fail
      refine (iEnds ao1 cap1 x.2 aw capw ws _ (h.later hB2).p1 (hT.later hB2) (by omega)).mono ?_
      rintro e w3 ⟨ae, ce, rfl, hO3, hb3⟩
      have hB3 := hB2.trans (hb3.mono hB2.size)
      clear hb3 x0 x1 HB2
      obtain ⟨m, hm⟩ : ∃ m, ws.length = m + 1 := ⟨ws.length - 1, by omega⟩
      have hlE : (endsL x.2 ws).length = m + 1 := by simp [endsL, hm]
      obtain ⟨ge, hge, hgelt, hcells, hcapE, hcmE⟩ : ∃ ge, ae = some ⟨ge, 0, none⟩ ∧ ge < w3.heap.size ∧ (∀ i (h : i < (endsL x.2 ws).length), w3.cell? ⟨ge, i * 2, none⟩ = some (.int .i64 ((endsL x.2 ws)[i]'h).1) ∧ w3.cell? ⟨ge, i * 2 + 1, none⟩ = some (.int .i64 ((endsL x.2 ws)[i]'h).2)) ∧ m + 1 ≤ ce ∧ ce ≤ maxLen := by
        rw [hm, ← hlE] at hO3
        rcases hO3.2 with ⟨_, h0⟩ | ⟨g, c, cur, hv, _, hh, hn2, hc, _⟩
        · omega
        · cases hv
          rcases atPlanCell_owns hO3 with h0 | ⟨g', e', h1, h2⟩
          · rw [h0] at hlE; simp at hlE
          · exact ⟨g', e', h1, h2, by omega, hc⟩
      subst hge
      have HIN := ends_in G1.out ws
      rw [hm]
      have HCR : Hid (cellsR x.2 ws = alongTo (endsL x.2 ws) m) := by show alongTo _ _ = _; rw [hm]; rfl
      have HAL := iAlong ge ce m (endsL x.2 ws) w3 hlE hcells hgelt (by omega) (by omega) hcapE hcmE HIN
      rw [← HCR.out] at HAL
      have HL := along_len HIN m
      rw [← HCR.out] at HL
      have HY : Hid ((cellsR x.2 ws).length ≤ 40 → pb (CellsOk x ws) = true ∧ cellsOf x ws = cellsR x.2 ws) := fun hl => cells_yes ⟨G1.out, G2.out, hl⟩
      have HN : Hid (¬ (cellsR x.2 ws).length ≤ 40 → pb (CellsOk x ws) = false ∧ cellsOf x ws = []) := fun hl => cells_no (fun h => hl h.2.2)
      clear G1 G2 hcells HIN hlE hO3 HCR
      generalize cellsR x.2 ws = R at *
      go_wp2_with fail
      refine HAL.mono ?_
      rintro e w4 ⟨g, cp, rfl, hO4, hb4⟩
      have hB4 := hB3.trans (hb4.mono hB3.size)
      have HO4 : Hid (w4.ownsRow w.heap.size 84 2 (.slice (some ⟨g, 0, none⟩) R.length cp) R.length (valsPlanCell R)) := own_lo hO4 hB3.size
      clear hb4 hO4 HAL
      by_cases hl : R.length ≤ 40
      · have HR := HY.out hl
        have HHR : Hid _ := HR
        clear HY HN HR
        go_wp2
        refine bodyPost_ret (v := .tuple #[.slice (some ⟨g, 0, none⟩) R.length cp, .bool true]) (by simp [results, Tryz.results43, go_sem]) rfl ?_
        exact ⟨some ⟨g, 0, none⟩, cp, by rw [HHR.out.1, HHR.out.2], by rw [HHR.out.2]; exact HO4.out, hB4⟩
      · have HR := HN.out hl
        have HHR : Hid _ := HR
        clear HY HN HR
        go_wp2
        refine bodyPost_ret (v := .tuple #[.slice none 0 0, .bool false]) (by simp [results, Tryz.results43, go_sem]) rfl ?_
        exact ⟨none, 0, by rw [HHR.out.1, HHR.out.2]; first | done | rfl, by rw [HHR.out.2]; exact World.ownsRow_nil _ _ _ _, hB4⟩
    · rw [pb_no g2]
      have HR : Hid (pb (CellsOk x ws) = false ∧ cellsOf x ws = []) := cells_no (fun h => g2 h.2.1)
      clear g2 x0 x1 HB2
      go_wp2
      refine bodyPost_ret (v := .tuple #[.slice none 0 0, .bool false]) (by simp [results, Tryz.results43, go_sem]) rfl ?_
      exact ⟨none, 0, by rw [HR.out.1, HR.out.2]; first | done | rfl, by rw [HR.out.2]; exact World.ownsRow_nil _ _ _ _, hB2⟩
  · rw [pb_no g1]
    have HR : Hid (pb (CellsOk x ws) = false ∧ cellsOf x ws = []) := cells_no (fun h => g1 h.1)
    clear g1 x0 x1 HB1
    go_wp2
    refine bodyPost_ret (v := .tuple #[.slice none 0 0, .bool false]) (by simp [results, Tryz.results43, go_sem]) rfl ?_
    exact ⟨none, 0, by rw [HR.out.1, HR.out.2]; first | done | rfl, by rw [HR.out.2]; exact World.ownsRow_nil _ _ _ _, hB1⟩

end Pcl
end Go.Proofs.YtgnjkpmbppmoeaaGreat
