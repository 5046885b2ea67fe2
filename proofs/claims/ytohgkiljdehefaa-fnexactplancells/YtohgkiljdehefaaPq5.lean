/- DERIVED. impl.planEndsOf: its walk. -/
import Derived.Test.YtohgkiljdehefaaCa
import Derived.Test.YtohgkiljdehefaaRf0
import Derived.Test.YtohgkiljdehefaaPc0
namespace Go.Proofs.Ytohgkiljdehefaa
namespace Pcl
open Go.RowKit Leg
set_option linter.unusedSimpArgs false
set_option linter.unusedVariables false

noncomputable def endAt (ps : List DPlanPoint) (n : ByteArray) : DCell := ((findD nmP zP ps n).2.1, (findD nmP zP ps n).2.2)
noncomputable def endsL (ps : List DPlanPoint) (ws : List ByteArray) : List DCell := ws.map (endAt ps)

set_option maxRecDepth 100000 in
set_option maxHeartbeats 4000000 in
theorem iEnds (ao : Option Addr) (cap : Nat) (ps : List DPlanPoint) (aw : Option Addr) (capw : Nat) (ws : List ByteArray) (w : World) (h : SliceAt vPlanPoint (old w) w ao cap ps) (hT : TxO w aw ws) (hwl : ws.length ≤ 1000) :
    Calls Try.prog 63 #[.slice ao ps.length cap, .slice aw ws.length capw] w fun e w' => ∃ ao' cap', e = .returned (.slice ao' ws.length cap') ∧ w'.ownsRow w.heap.size 96 2 (.slice ao' ws.length cap') ws.length (valsPlanCell (endsL ps ws)) ∧ Below w.heap.size w w' := by
  obtain ⟨i0, hi, hz0, hz1, hz2⟩ := info_parts infoPC
  go_enter Try.func63, Try.ntmps63
  go_wp2
  go_loopw [5, 12] (fun v i wr => ∃ k ao' cap', k ≤ ws.length ∧ i = .int .i64 k ∧ v = .slice ao' k cap' ∧ wr.ownsRow w.heap.size 96 2 (.slice ao' k cap') k (valsPlanCell ((endsL ps ws).take k)) ∧ Below w.heap.size w wr) (fun _ i _ => ws.length - (intOf i).toNat)
  case atStart => exact ⟨0, none, 0, Nat.zero_le _, rfl, rfl, World.ownsRow_nil _ _ _ _, Below.refl _ _⟩
  case round =>
    obtain ⟨k, ao', cap', hk, rfl, rfl, hO, hB⟩ := hrel
    have hsz := hB.size
    by_cases hlt : k < ws.length
    · obtain ⟨g, off, rfl, hg, hc⟩ := (hT.later hB).at hlt
      have f0 := hc k hlt
      have hkI : (k : Int) < (ws.length : Int) := by omega
      have HTK : Hid ((endsL ps ws).take (k + 1) = (endsL ps ws).take k ++ [endAt ps (ws[k]'hlt)]) := by
        show _ = _
        rw [List.take_succ_eq_append_getElem (by simp [endsL]; omega)]
        simp [endsL]
      clear hc hT
      generalize ws[k]'hlt = wk at *
      have HF := find_PlanPoint ao cap ps wk wr (h.later hB)
      have HEA : Hid (endAt ps wk = ((findD nmP zP ps wk).2.1, (findD nmP zP ps wk).2.2)) := rfl
      obtain ⟨r, hr⟩ : ∃ r, r = findD nmP zP ps wk := ⟨_, rfl⟩
      rw [← hr] at HF HEA
      clear hr
      obtain ⟨n, x, y⟩ := r
      simp only at HF HEA
      go_wp2_with fail
      refine HF.mono ?_
      rintro e w2 ⟨rfl, hb2⟩
      have hB2 := hB.trans (hb2.mono hsz)
      have hO2 := owns_below hO hb2
      have hz2' := hB2.size
      clear HF hb2 hO hB f0
      go_wp2_with fail
      refine (ptCell n x y _).mono ?_
      rintro e w3 ⟨rfl, hb3⟩
      have hB3 := (hB2.alloc hB2.size (.cells #[.string n, .int .i64 x, .int .i64 y] 73)).trans (hb3.mono (by simp; omega))
      have hO3 := owns_below (hO2.alloc (.cells #[.string n, .int .i64 x, .int .i64 y] 73)) hb3
      have hz3 := hB3.size
      clear hb3 hO2 hB2
      go_wp2_with (at_builtin; refine wpList_append_own _ rfl _ _ 57 rfl w.heap.size 96 i0 (.agg #[.int .i64 0, .int .i64 0]) 2 16 Try.underlying57 hi hz0 hz1 hz2 rfl (by decide) _ _ _ rfl (hO3.alloc _) ⟨w3.heap.size, 0, none⟩ 1 1 [.int .i64 x, .int .i64 y] rfl rfl ?c1 ?c2 ?c3 ?c4 ?c5 ?_)
      case c1 =>
        intro j u hj
        match j, hj with
        | 0, hj => simp at hj; subst hj; simp [Addr.add]
        | 1, hj => simp at hj; subst hj; simp [Addr.add]
      case c2 =>
        intro u hu
        simp at hu
        rcases hu with rfl | rfl <;> rfl
      case c3 => unfold maxLen; omega
      case c4 => omega
      case c5 => simp; omega
      intro v' w4 hown' hgrow _
      obtain ⟨g', cap2, rfl⟩ := owns_pos hown'
      have hB4 : Below w.heap.size w w4 := (hB3.alloc hB3.size _).grown hgrow (by simp; omega) (fun j hj => own_ge hO3 j hj)
      have hO4 : w4.ownsRow w.heap.size 96 2 (.slice (some ⟨g', 0, none⟩) (k + 1) cap2) (k + 1) (valsPlanCell ((endsL ps ws).take (k + 1))) := by
        rw [HTK.out, HEA.out, valsPlanCell_snoc]
        exact hown'
      have HO4 : Hid _ := hO4
      clear hown' hgrow hO3 hB3 hO4
      go_wp2
      go_roundw
      case rel => exact ⟨k + 1, _, _, by omega, by go_num, rfl, HO4.out, hB4⟩
      case measure => simp [intOf]; omega
    · have hke : k = ws.length := by omega
      subst hke
      have HO : Hid (wr.ownsRow w.heap.size 96 2 (.slice ao' ws.length cap') ws.length (valsPlanCell (endsL ps ws))) := by
        rw [List.take_of_length_le (by simp [endsL])] at hO
        exact hO
      clear hO
      go_wp2
      go_ret
      exact ⟨ao', cap', rfl, HO.out, hB⟩

end Pcl
end Go.Proofs.Ytohgkiljdehefaa
