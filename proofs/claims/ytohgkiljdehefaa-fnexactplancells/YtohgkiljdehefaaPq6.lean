/- DERIVED. impl.PlanCells: its walk. -/
import Derived.Test.YtohgkiljdehefaaPq5
import Derived.Test.YtohgkiljdehefaaPlI3
import Derived.Test.YtohgkiljdehefaaPlL0
namespace Go.Proofs.Ytohgkiljdehefaa
namespace Pcl
open Go.RowKit Leg
set_option linter.unusedSimpArgs false
set_option linter.unusedVariables false

/-- The cells along a route, whether or not they are too many. -/
noncomputable def cellsR (ps : List DPlanPoint) (ws : List ByteArray) : List DCell := alongTo (endsL ps ws) (ws.length - 1)
def CellsOk (x : DPlanBase) (ws : List ByteArray) : Prop := BaseOk x ∧ RouteOk x.2 ws ∧ (cellsR x.2 ws).length ≤ 40
noncomputable def cellsOf (x : DPlanBase) (ws : List ByteArray) : List DCell := if pb (CellsOk x ws) then cellsR x.2 ws else []

theorem zC_in : InLeg zC := ⟨⟨by decide, by decide⟩, by decide, by decide⟩
theorem endAt_in {x : DPlanBase} (h : BaseOk x) (n : ByteArray) : InLeg (endAt x.2 n) := by
  have hz : InLeg (zP.2.1, zP.2.2) := zC_in
  have hall : ∀ p ∈ x.2, InLeg (p.2.1, p.2.2) := by
    intro p hp
    obtain ⟨i, hi, rfl⟩ := List.mem_iff_getElem.1 hp
    have hp := (h.2.2.1 i hi hi).1
    exact ⟨hp.2.1, hp.2.2⟩
  have key : ∀ l : List DPlanPoint, (∀ p ∈ l, InLeg (p.2.1, p.2.2)) → InLeg ((findD nmP zP l n).2.1, (findD nmP zP l n).2.2) := by
    intro l
    induction l with
    | nil => intro _; exact hz
    | cons p l ih =>
      intro hl
      show InLeg ((if pb (nmP p = n) then p else findD nmP zP l n).2.1, (if pb (nmP p = n) then p else findD nmP zP l n).2.2)
      split
      · exact hl p (by simp)
      · exact ih (fun q hq => hl q (by simp [hq]))
  exact key x.2 hall
theorem ends_in {x : DPlanBase} (h : BaseOk x) (ws : List ByteArray) (i : Nat) : InLeg ((endsL x.2 ws).getD i zC) := by
  rw [List.getD_eq_getElem?_getD]
  by_cases hi : i < (endsL x.2 ws).length
  · rw [List.getElem?_eq_getElem hi]
    simp only [Option.getD_some, endsL, List.getElem_map]
    exact endAt_in h _
  · rw [List.getElem?_eq_none (by omega)]
    exact zC_in

theorem own_lo {W : World} {b b' : Nat} {e : TypeId} {size k : Nat} {v : Value} {xs : List Value} (h : W.ownsRow b e size v k xs) (hb : b' ≤ b) : W.ownsRow b' e size v k xs := by
  refine ⟨h.1, ?_⟩
  rcases h.2 with h1 | ⟨g, cap, cur, h1, h2, h3⟩
  · exact .inl h1
  · exact .inr ⟨g, cap, cur, h1, Nat.le_trans hb h2, h3⟩

/-- What a call of PlanCells leaves. -/
def GivesC (x : DPlanBase) (ws : List ByteArray) (w : World) (e : Ending) (w' : World) : Prop :=
  ∃ ao cap, e = .returned (.tuple #[.slice ao (cellsOf x ws).length cap, .bool (pb (CellsOk x ws))]) ∧ w'.ownsRow w.heap.size 96 2 (.slice ao (cellsOf x ws).length cap) (cellsOf x ws).length (valsPlanCell (cellsOf x ws)) ∧ Below w.heap.size w w'

theorem cells_no {x : DPlanBase} {ws : List ByteArray} (h : ¬ CellsOk x ws) : pb (CellsOk x ws) = false ∧ cellsOf x ws = [] := by
  have e := pb_no h
  exact ⟨e, by unfold cellsOf; rw [e]; rfl⟩
theorem cells_yes {x : DPlanBase} {ws : List ByteArray} (h : CellsOk x ws) : pb (CellsOk x ws) = true ∧ cellsOf x ws = cellsR x.2 ws := by
  have e := pb_yes h
  exact ⟨e, by unfold cellsOf; rw [e]; rfl⟩

set_option maxRecDepth 100000 in
set_option maxHeartbeats 4000000 in
theorem iCells (x : DPlanBase) (ao0 : Option Addr) (cap0 : Nat) (ao1 : Option Addr) (cap1 : Nat) (aw : Option Addr) (capw : Nat) (ws : List ByteArray) (w : World) (h : BaseAt w x ao0 cap0 ao1 cap1) (hT : TxO w aw ws) (hwl : ws.length ≤ 1048577) :
    Calls Try.prog 27 #[.agg #[.slice ao0 x.1.length cap0, .slice ao1 x.2.length cap1], .slice aw ws.length capw] w (GivesC x ws w) := by
  have hb0 : Below w.heap.size w (w.alloc (.cells #[.slice ao0 x.1.length cap0, .slice ao1 x.2.length cap1] 31)) := (Below.refl _ _).alloc (Nat.le_refl _) _
  have HB0 := BxC.new w #[.slice ao0 x.1.length cap0, .slice ao1 x.2.length cap1] 31
  unfold GivesC
  go_enter Try.func27, Try.ntmps27
  go_wp2_with fail
  have hA0 := h.later hb0
  refine (iBase x ao0 cap0 ao1 cap1 _ hA0.p0 hA0.p1).mono ?_
  rintro e w1 ⟨rfl, hb1⟩
  have hB1 := hb0.trans (hb1.mono hb0.size)
  have HB1 := HB0.below hb1 (by simp)
  have hz1 : w.heap.size < w1.heap.size := by have := hb1.size; simp at this; omega
  clear hb1 hb0 HB0 hA0
  have x0 := HB1 0
  have x1 := HB1 1
  simp at x0 x1
  by_cases g1 : BaseOk x
  · rw [pb_yes g1]
    have G1 : Hid (BaseOk x) := g1
    clear g1
    go_wp2_with fail
    refine (iRouteO ao1 cap1 x.2 aw capw ws _ (h.later hB1).p1 (hT.later hB1) hwl).mono ?_
    rintro e w2 ⟨rfl, hb2⟩
    have hB2 := hB1.trans (hb2.mono hB1.size)
    have HB2 := HB1.below hb2 hz1
    have hz2 : w.heap.size < w2.heap.size := by have := hb2.size; omega
    clear hb2 HB1 x0 x1 hB1 hz1
    have x0 := HB2 0
    have x1 := HB2 1
    simp at x0 x1
    by_cases g2 : RouteOk x.2 ws
    · rw [pb_yes g2]
      have hr := g2.1
      have hr1 := hr.1
      have hr2 := hr.2
      have G2 : Hid (RouteOk x.2 ws) := g2
      clear g2 hr
      go_wp2_with fail
      refine (iEnds ao1 cap1 x.2 aw capw ws _ (h.later hB2).p1 (hT.later hB2) (by omega)).mono ?_
      rintro e w3 ⟨ae, ce, rfl, hO3, hb3⟩
      have hB3 := hB2.trans (hb3.mono hB2.size)
      clear hb3 x0 x1 HB2
      obtain ⟨m, hm⟩ : ∃ m, ws.length = m + 1 := ⟨ws.length - 1, by omega⟩
      have hlE : (endsL x.2 ws).length = m + 1 := by simp [endsL, hm]
      obtain ⟨ge, hge, hgelt, hcells, hcapE, hcmE⟩ : ∃ ge, ae = some ⟨ge, 0, none⟩ ∧ ge < w3.heap.size ∧ (∀ i (h : i < (endsL x.2 ws).length), w3.cell? ⟨ge, i * 2, none⟩ = some (.int .i64 ((endsL x.2 ws)[i]'h).1) ∧ w3.cell? ⟨ge, i * 2 + 1, none⟩ = some (.int .i64 ((endsL x.2 ws)[i]'h).2)) ∧ m + 1 ≤ ce ∧ ce ≤ maxLen := by
        rw [hm, ← hlE] at hO3
        rcases hO3.2 with ⟨_, h0⟩ | ⟨g, c, cur, hv, _, hh, hn2, hc, _⟩
        · omega
        · cases hv
          rcases atPlanCell_owns hO3 with h0 | ⟨g', e', h1, h2⟩
          · rw [h0] at hlE; simp at hlE
          · exact ⟨g', e', h1, h2, by omega, hc⟩
      subst hge
      have HIN := ends_in G1.out ws
      rw [hm]
      have HCR : Hid (cellsR x.2 ws = alongTo (endsL x.2 ws) m) := by show alongTo _ _ = _; rw [hm]; rfl
      have HAL := iAlong ge ce m (endsL x.2 ws) w3 hlE hcells hgelt (by omega) (by omega) hcapE hcmE HIN
      rw [← HCR.out] at HAL
      have HL := along_len HIN m
      rw [← HCR.out] at HL
      have HY : Hid ((cellsR x.2 ws).length ≤ 40 → pb (CellsOk x ws) = true ∧ cellsOf x ws = cellsR x.2 ws) := fun hl => cells_yes ⟨G1.out, G2.out, hl⟩
      have HN : Hid (¬ (cellsR x.2 ws).length ≤ 40 → pb (CellsOk x ws) = false ∧ cellsOf x ws = []) := fun hl => cells_no (fun h => hl h.2.2)
      clear G1 G2 hcells HIN hlE hO3 HCR
      generalize cellsR x.2 ws = R at *
      go_wp2_with fail
      refine HAL.mono ?_
      rintro e w4 ⟨g, cp, rfl, hO4, hb4⟩
      have hB4 := hB3.trans (hb4.mono hB3.size)
      have HO4 : Hid (w4.ownsRow w.heap.size 96 2 (.slice (some ⟨g, 0, none⟩) R.length cp) R.length (valsPlanCell R)) := own_lo hO4 hB3.size
      clear hb4 hO4 HAL
      by_cases hl : R.length ≤ 40
      · have HR := HY.out hl
        have HHR : Hid _ := HR
        clear HY HN HR
        go_wp2
        refine bodyPost_ret (v := .tuple #[.slice (some ⟨g, 0, none⟩) R.length cp, .bool true]) (by simp [results, Try.results27, go_sem]) rfl ?_
        exact ⟨some ⟨g, 0, none⟩, cp, by rw [HHR.out.1, HHR.out.2], by rw [HHR.out.2]; exact HO4.out, hB4⟩
      · have HR := HN.out hl
        have HHR : Hid _ := HR
        clear HY HN HR
        go_wp2
        refine bodyPost_ret (v := .tuple #[.slice none 0 0, .bool false]) (by simp [results, Try.results27, go_sem]) rfl ?_
        exact ⟨none, 0, by rw [HHR.out.1, HHR.out.2]; first | done | rfl, by rw [HHR.out.2]; exact World.ownsRow_nil _ _ _ _, hB4⟩
    · rw [pb_no g2]
      have HR : Hid (pb (CellsOk x ws) = false ∧ cellsOf x ws = []) := cells_no (fun h => g2 h.2.1)
      clear g2 x0 x1 HB2
      go_wp2
      refine bodyPost_ret (v := .tuple #[.slice none 0 0, .bool false]) (by simp [results, Try.results27, go_sem]) rfl ?_
      exact ⟨none, 0, by rw [HR.out.1, HR.out.2]; first | done | rfl, by rw [HR.out.2]; exact World.ownsRow_nil _ _ _ _, hB2⟩
  · rw [pb_no g1]
    have HR : Hid (pb (CellsOk x ws) = false ∧ cellsOf x ws = []) := cells_no (fun h => g1 h.1)
    clear g1 x0 x1 HB1
    go_wp2
    refine bodyPost_ret (v := .tuple #[.slice none 0 0, .bool false]) (by simp [results, Try.results27, go_sem]) rfl ?_
    exact ⟨none, 0, by rw [HR.out.1, HR.out.2]; first | done | rfl, by rw [HR.out.2]; exact World.ownsRow_nil _ _ _ _, hB1⟩

end Pcl
end Go.Proofs.Ytohgkiljdehefaa
