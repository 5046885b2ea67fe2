/- DERIVED. impl.flyTicksOf, FlyFirst, FlyLast: their walks (written by wip/tools/mk_wk2.py). -/
import Derived.Test.YtpjacfnjjkoikaaKWkI5
import Derived.Test.YtpjacfnjjkoikaaKTsS1
namespace Go.Proofs.Ytpjacfnjjkoikaa
namespace Fly
open Go.RowKit
set_option linter.unusedSimpArgs false
set_option linter.unusedVariables false


theorem take_ints (L : List RFlySpan) (f : RFlySpan → Int) (k : Nat) (h : k < L.length) : valsInt ((L.take k).map f) ++ [.int .i64 (f (L[k]'h))] = valsInt ((L.take (k + 1)).map f) := by
  rw [List.take_succ_eq_append_getElem h, List.map_append]
  exact (valsInt_snoc _ _).symm

set_option maxRecDepth 100000 in
set_option maxHeartbeats 4000000 in
theorem iTicksFirst (x : DFlyPath) (ao : Option Addr) (cap : Nat) (w : World) (h : PathAt w x ao cap) (hL : (spansF x).1.length ≤ 1000) :
    Calls Try.prog 54 #[.agg #[.int .i64 x.1.1, .int .i64 x.1.2, .slice ao x.2.1.length cap, .int .i64 x.2.2.1, .int .i64 x.2.2.2], .func (.func 55) #[] #[]] w fun e w' => ∃ bo bc, e = .returned (.slice bo ((spansF x).1.map (·.1)).length bc) ∧ w'.ownsRow w.heap.size 3 1 (.slice bo ((spansF x).1.map (·.1)).length bc) ((spansF x).1.map (·.1)).length (valsInt ((spansF x).1.map (·.1))) ∧ Below w.heap.size w w' := by
  obtain ⟨i0, hi, hz0, hz1, hz2⟩ := info_parts Try.infoInt
  have HB0 : Below w.heap.size w (w.alloc (.cells #[.int .i64 x.1.1, .int .i64 x.1.2, .slice ao x.2.1.length cap, .int .i64 x.2.2.1, .int .i64 x.2.2.2] 34)) := (Below.refl _ _).alloc (Nat.le_refl _) _
  have HT := iSpans x ao cap (w.alloc (.cells #[.int .i64 x.1.1, .int .i64 x.1.2, .slice ao x.2.1.length cap, .int .i64 x.2.2.1, .int .i64 x.2.2.2] 34)) (h.later HB0)
  unfold GivesSp at HT
  generalize (spansF x).1 = L at *
  generalize (spansF x).2 = ok at *
  have HiPickLow := fun (s : RFlySpan) W => iPickLow s W
  go_enter Try.func54, Try.ntmps54
  go_wp2_with fail
  refine HT.mono ?_
  rintro e w1 ⟨so, sc, rfl, hO1, hb1⟩
  have hA1 := hid (atFlySpan_owns hO1)
  have hcc := (own_caps hO1).2
  have hB1 := hid (HB0.trans (hb1.mono HB0.size))
  clear HT hO1 hb1 HB0 h
  go_wp2
  go_loopw [7, 17] (fun v i wr => ∃ (k : Nat) (bo : Option Addr) (bc : Nat), k ≤ L.length ∧ i = .int .i64 k ∧ v = .slice bo k bc ∧ wr.ownsRow w1.heap.size 3 1 (.slice bo k bc) k (valsInt ((L.take k).map (·.1))) ∧ Below w1.heap.size w1 wr) (fun _ i _ => L.length - (intOf i).toNat)
  case atStart => exact ⟨0, none, 0, Nat.zero_le _, rfl, rfl, World.ownsRow_nil _ _ _ _, Below.refl _ _⟩
  case round =>
    obtain ⟨k, bo, bc, hk, rfl, rfl, hO, hB⟩ := hrel
    by_cases hlt : k < L.length
    · obtain ⟨g, rfl, hg, c0, c1⟩ := hA1.out.elem hlt
      have d0 := (hB.cell (p := ⟨g, k * 2, none⟩) hg).trans c0
      have d1 := (hB.cell (p := ⟨g, k * 2 + 1, none⟩) hg).trans c1
      have hkI : (k : Int) < (L.length : Int) := by omega
      have HSN := take_ints L (·.1) k hlt
      obtain ⟨V1, hV1e⟩ : ∃ V1, valsInt ((L.take (k + 1)).map (·.1)) = V1 := ⟨_, rfl⟩
      rw [hV1e] at HSN
      have hV1 := hid hV1e
      clear hV1e
      generalize valsInt ((L.take k).map (·.1)) = V0 at *
      have HQ := HiPickLow (L[k]'hlt)
      have hB_ := hid hB
      have hO_ := hid hO
      generalize L[k]'hlt = s at *
      obtain ⟨s0, s1⟩ := s
      simp only at d0 d1 HSN HQ
      have HSN_ := hid HSN
      clear c0 c1 hB hO HSN
      have hba : Below wr.heap.size wr (wr.alloc (.cells #[.int .i64 s0, .int .i64 s1] 65)) := (Below.refl _ _).alloc (Nat.le_refl _) _
      go_wp2_with fail
      refine (HQ _).mono ?_
      rintro e w9 ⟨rfl, hb9⟩
      have hO9 := owns_below (owns_below hO_.out hba) hb9
      have hz9 := hb9.size
      have hB9 := hid ((hB_.out.trans (hba.mono hB_.out.size)).trans (hb9.mono (Nat.le_trans hB_.out.size hba.size)))
      have hbs : w1.heap.size ≤ w9.heap.size := hB9.out.size
      clear hb9 hO_ hB_ HQ d0 d1 hba
      go_wp2_with (at_builtin; refine wpList_append_own_at _ rfl _ _ 41 rfl w1.heap.size 3 i0 (.int .i64 0) 1 8 Try.underlying41 hi hz0 hz1 hz2 rfl (by decide) _ _ _ rfl (hO9.alloc _) ⟨w9.heap.size, 0, none⟩ 1 1 [.int .i64 s0] rfl rfl (newRow _ _ _) (ones rfl) (by unfold maxLen; omega) (by omega) (by simp; omega) ?_)
      intro v' w5 hown hgrow _ hpos
      obtain ⟨g5, c5, rfl⟩ := owns_pos hown
      have hb5 := hid ((hB9.out.alloc hbs _).grown hgrow (by simp; omega) (fun j hj => own_ge hO9 j hj))
      have HO5 := hid (HSN_.out ▸ hown)
      clear hown hgrow hO9 hB9 HSN_
      go_wp2
      go_roundw
      case rel => exact ⟨k + 1, _, _, by omega, by go_num, rfl, by rw [hV1.out]; exact HO5.out, hb5.out⟩
      case measure => simp [intOf]; omega
    · have hke : k = L.length := by omega
      subst hke
      have HB := hid (hB1.out.trans (hB.mono hB1.out.size))
      have HO := hid hO
      clear hO hB
      go_wp2
      go_ret
      refine ⟨bo, bc, by simp, ?_, HB.out⟩
      have h1 := own_base HO.out hB1.out.size
      rw [List.take_length] at h1
      rw [List.length_map]
      exact h1
theorem iFirst (x : DFlyPath) (ao : Option Addr) (cap : Nat) (w : World) (h : PathAt w x ao cap) (hL : (spansF x).1.length ≤ 1000) :
    Calls Try.prog 19 #[.agg #[.int .i64 x.1.1, .int .i64 x.1.2, .slice ao x.2.1.length cap, .int .i64 x.2.2.1, .int .i64 x.2.2.2]] w fun e w' => ∃ bo bc, e = .returned (.slice bo ((spansF x).1.map (·.1)).length bc) ∧ w'.ownsRow w.heap.size 3 1 (.slice bo ((spansF x).1.map (·.1)).length bc) ((spansF x).1.map (·.1)).length (valsInt ((spansF x).1.map (·.1))) ∧ Below w.heap.size w w' := by
  have HB0 : Below w.heap.size w (w.alloc (.cells #[.int .i64 x.1.1, .int .i64 x.1.2, .slice ao x.2.1.length cap, .int .i64 x.2.2.1, .int .i64 x.2.2.2] 34)) := (Below.refl _ _).alloc (Nat.le_refl _) _
  have HT := iTicksFirst x ao cap (w.alloc (.cells #[.int .i64 x.1.1, .int .i64 x.1.2, .slice ao x.2.1.length cap, .int .i64 x.2.2.1, .int .i64 x.2.2.2] 34)) (h.later HB0) hL
  generalize (spansF x).1.map (·.1) = M at *
  go_enter Try.func19, Try.ntmps19
  go_wp2_with fail
  refine HT.mono ?_
  rintro e w1 ⟨bo, bc, rfl, hO, hb⟩
  have HO := hid (own_base hO HB0.size)
  have HB := hid (HB0.trans (hb.mono HB0.size))
  clear HT hO hb h
  go_wp2
  go_ret
  exact ⟨bo, bc, rfl, HO.out, HB.out⟩

set_option maxRecDepth 100000 in
set_option maxHeartbeats 4000000 in
theorem iTicksLast (x : DFlyPath) (ao : Option Addr) (cap : Nat) (w : World) (h : PathAt w x ao cap) (hL : (spansF x).1.length ≤ 1000) :
    Calls Try.prog 54 #[.agg #[.int .i64 x.1.1, .int .i64 x.1.2, .slice ao x.2.1.length cap, .int .i64 x.2.2.1, .int .i64 x.2.2.2], .func (.func 56) #[] #[]] w fun e w' => ∃ bo bc, e = .returned (.slice bo ((spansF x).1.map (·.2)).length bc) ∧ w'.ownsRow w.heap.size 3 1 (.slice bo ((spansF x).1.map (·.2)).length bc) ((spansF x).1.map (·.2)).length (valsInt ((spansF x).1.map (·.2))) ∧ Below w.heap.size w w' := by
  obtain ⟨i0, hi, hz0, hz1, hz2⟩ := info_parts Try.infoInt
  have HB0 : Below w.heap.size w (w.alloc (.cells #[.int .i64 x.1.1, .int .i64 x.1.2, .slice ao x.2.1.length cap, .int .i64 x.2.2.1, .int .i64 x.2.2.2] 34)) := (Below.refl _ _).alloc (Nat.le_refl _) _
  have HT := iSpans x ao cap (w.alloc (.cells #[.int .i64 x.1.1, .int .i64 x.1.2, .slice ao x.2.1.length cap, .int .i64 x.2.2.1, .int .i64 x.2.2.2] 34)) (h.later HB0)
  unfold GivesSp at HT
  generalize (spansF x).1 = L at *
  generalize (spansF x).2 = ok at *
  have HiPickHigh := fun (s : RFlySpan) W => iPickHigh s W
  go_enter Try.func54, Try.ntmps54
  go_wp2_with fail
  refine HT.mono ?_
  rintro e w1 ⟨so, sc, rfl, hO1, hb1⟩
  have hA1 := hid (atFlySpan_owns hO1)
  have hcc := (own_caps hO1).2
  have hB1 := hid (HB0.trans (hb1.mono HB0.size))
  clear HT hO1 hb1 HB0 h
  go_wp2
  go_loopw [7, 17] (fun v i wr => ∃ (k : Nat) (bo : Option Addr) (bc : Nat), k ≤ L.length ∧ i = .int .i64 k ∧ v = .slice bo k bc ∧ wr.ownsRow w1.heap.size 3 1 (.slice bo k bc) k (valsInt ((L.take k).map (·.2))) ∧ Below w1.heap.size w1 wr) (fun _ i _ => L.length - (intOf i).toNat)
  case atStart => exact ⟨0, none, 0, Nat.zero_le _, rfl, rfl, World.ownsRow_nil _ _ _ _, Below.refl _ _⟩
  case round =>
    obtain ⟨k, bo, bc, hk, rfl, rfl, hO, hB⟩ := hrel
    by_cases hlt : k < L.length
    · obtain ⟨g, rfl, hg, c0, c1⟩ := hA1.out.elem hlt
      have d0 := (hB.cell (p := ⟨g, k * 2, none⟩) hg).trans c0
      have d1 := (hB.cell (p := ⟨g, k * 2 + 1, none⟩) hg).trans c1
      have hkI : (k : Int) < (L.length : Int) := by omega
      have HSN := take_ints L (·.2) k hlt
      obtain ⟨V1, hV1e⟩ : ∃ V1, valsInt ((L.take (k + 1)).map (·.2)) = V1 := ⟨_, rfl⟩
      rw [hV1e] at HSN
      have hV1 := hid hV1e
      clear hV1e
      generalize valsInt ((L.take k).map (·.2)) = V0 at *
      have HQ := HiPickHigh (L[k]'hlt)
      have hB_ := hid hB
      have hO_ := hid hO
      generalize L[k]'hlt = s at *
      obtain ⟨s0, s1⟩ := s
      simp only at d0 d1 HSN HQ
      have HSN_ := hid HSN
      clear c0 c1 hB hO HSN
      have hba : Below wr.heap.size wr (wr.alloc (.cells #[.int .i64 s0, .int .i64 s1] 65)) := (Below.refl _ _).alloc (Nat.le_refl _) _
      go_wp2_with fail
      refine (HQ _).mono ?_
      rintro e w9 ⟨rfl, hb9⟩
      have hO9 := owns_below (owns_below hO_.out hba) hb9
      have hz9 := hb9.size
      have hB9 := hid ((hB_.out.trans (hba.mono hB_.out.size)).trans (hb9.mono (Nat.le_trans hB_.out.size hba.size)))
      have hbs : w1.heap.size ≤ w9.heap.size := hB9.out.size
      clear hb9 hO_ hB_ HQ d0 d1 hba
      go_wp2_with (at_builtin; refine wpList_append_own_at _ rfl _ _ 41 rfl w1.heap.size 3 i0 (.int .i64 0) 1 8 Try.underlying41 hi hz0 hz1 hz2 rfl (by decide) _ _ _ rfl (hO9.alloc _) ⟨w9.heap.size, 0, none⟩ 1 1 [.int .i64 s1] rfl rfl (newRow _ _ _) (ones rfl) (by unfold maxLen; omega) (by omega) (by simp; omega) ?_)
      intro v' w5 hown hgrow _ hpos
      obtain ⟨g5, c5, rfl⟩ := owns_pos hown
      have hb5 := hid ((hB9.out.alloc hbs _).grown hgrow (by simp; omega) (fun j hj => own_ge hO9 j hj))
      have HO5 := hid (HSN_.out ▸ hown)
      clear hown hgrow hO9 hB9 HSN_
      go_wp2
      go_roundw
      case rel => exact ⟨k + 1, _, _, by omega, by go_num, rfl, by rw [hV1.out]; exact HO5.out, hb5.out⟩
      case measure => simp [intOf]; omega
    · have hke : k = L.length := by omega
      subst hke
      have HB := hid (hB1.out.trans (hB.mono hB1.out.size))
      have HO := hid hO
      clear hO hB
      go_wp2
      go_ret
      refine ⟨bo, bc, by simp, ?_, HB.out⟩
      have h1 := own_base HO.out hB1.out.size
      rw [List.take_length] at h1
      rw [List.length_map]
      exact h1
theorem iLast (x : DFlyPath) (ao : Option Addr) (cap : Nat) (w : World) (h : PathAt w x ao cap) (hL : (spansF x).1.length ≤ 1000) :
    Calls Try.prog 24 #[.agg #[.int .i64 x.1.1, .int .i64 x.1.2, .slice ao x.2.1.length cap, .int .i64 x.2.2.1, .int .i64 x.2.2.2]] w fun e w' => ∃ bo bc, e = .returned (.slice bo ((spansF x).1.map (·.2)).length bc) ∧ w'.ownsRow w.heap.size 3 1 (.slice bo ((spansF x).1.map (·.2)).length bc) ((spansF x).1.map (·.2)).length (valsInt ((spansF x).1.map (·.2))) ∧ Below w.heap.size w w' := by
  have HB0 : Below w.heap.size w (w.alloc (.cells #[.int .i64 x.1.1, .int .i64 x.1.2, .slice ao x.2.1.length cap, .int .i64 x.2.2.1, .int .i64 x.2.2.2] 34)) := (Below.refl _ _).alloc (Nat.le_refl _) _
  have HT := iTicksLast x ao cap (w.alloc (.cells #[.int .i64 x.1.1, .int .i64 x.1.2, .slice ao x.2.1.length cap, .int .i64 x.2.2.1, .int .i64 x.2.2.2] 34)) (h.later HB0) hL
  generalize (spansF x).1.map (·.2) = M at *
  go_enter Try.func24, Try.ntmps24
  go_wp2_with fail
  refine HT.mono ?_
  rintro e w1 ⟨bo, bc, rfl, hO, hb⟩
  have HO := hid (own_base hO HB0.size)
  have HB := hid (HB0.trans (hb.mono HB0.size))
  clear HT hO hb h
  go_wp2
  go_ret
  exact ⟨bo, bc, rfl, HO.out, HB.out⟩

end Fly
end Go.Proofs.Ytpjacfnjjkoikaa
