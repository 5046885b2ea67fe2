/-
  For every two numbers, laws.FnExactPlanLevels returns true, and both read behind the call as they read before: impl.PlanLevels answers as the specification's PlanLevels does, its answer is new memory, and a second call does not write into it.
  No condition of ours: the statement as given (Rows.FnExactPlanLevelsSaid).
-/
import Derived.Test.YtelnlnoacfjfnaaLv0
import Derived.ProofKit
import Derived.OpenShut
import Derived.ChangeOld
namespace Go.Proofs.Ytelnlnoacfjfnaa
namespace Lev
open Go.RowKit
set_option linter.unusedSimpArgs false
set_option linter.unusedVariables false

set_option maxRecDepth 100000 in
set_option maxHeartbeats 4000000 in
theorem levelsLaw (s l : Int) (w : World) :
    Calls Try.prog 3 #[.int .i64 s, .int .i64 l] w fun e w' => e = .returned (.bool true) ∧ Below w.heap.size w w' := by
  have HS := fun W => sLevels s l W
  have HI := fun W => iLevels s l W
  unfold GivesLv at HS HI
  have hR := levels_len s l
  generalize levelsOf s l = R at *
  go_enter Try.func3, Try.ntmps3
  go_wp2_with fail
  refine (HS _).mono ?_
  rintro e w1 ⟨wao, wcap, rfl, hWo, hB1⟩
  have hWt := atInt_owns rfl hWo
  have hWin : ∀ g, wao = some ⟨g, 0, none⟩ → g < w1.heap.size := fun g hg => (hWo.lt g (by rw [hg]; rfl)).2
  have hz1 := hB1.size
  clear hWo HS
  go_wp2_with fail
  refine (HI _).mono ?_
  rintro e w2 ⟨gao, gcap, rfl, hGo, hb2⟩
  have hB2 := hB1.trans (hb2.mono hz1)
  have hWt2 := hWt.later hb2
  have hGt2 := atInt_owns rfl hGo
  have hz2 := hb2.size
  clear hb2 hB1 hWt
  have HQ := eqIntRS gao wao gcap wcap R w2 (by unfold maxLen; omega) hGt2 hWt2
  go_wp2_with fail
  refine HQ.mono ?_
  rintro e w3 ⟨rfl, hb3⟩
  have hB3 := hB2.trans (hb3.mono (by omega))
  have hWt3 := hWt2.later hb3
  have hGo3 := owns_below hGo hb3
  have hz3 := hb3.size
  clear HQ hb3 hB2 hWt2 hGt2 hGo
  have HM := markIntR gao gcap w1.heap.size 1 R w3 (by omega) (by omega) (by omega) hGo3
  go_wp2_with fail
  refine HM.mono ?_
  rintro e w4 ⟨rfl, hb4, hGt4⟩
  have hB4 := hB3.trans (hb4.mono (by omega))
  have hWt4 : AtInt w4 wao R := hWt3.kept (fun g h1 h2 => hb4.block g (by have := hWin g h1; omega)) hb4.size
  have hz4 := hb4.size
  clear HM hb4 hB3 hWt3 hGo3 hWin
  have HH := heldIntR gao gcap 1 R.length w4 (by omega) (by omega) hGt4
  go_wp2_with fail
  refine HH.mono ?_
  rintro e w5 ⟨rfl, hb5⟩
  have hB5 := hB4.trans (hb5.mono (by omega))
  have hWt5 := hWt4.later hb5
  have hGt5 := hGt4.later hb5
  have hz5 := hb5.size
  clear HH hb5 hB4 hWt4 hGt4
  have hll : ¬ (((1 + R.length : Nat) : Int) < 0) := by omega
  have hld : decide (((1 + R.length : Nat) : Int) < 0) = false := by simp; omega
  generalize hLL : ((1 + R.length : Nat) : Int) = LL at *
  go_wp2_with fail
  refine (HI _).mono ?_
  rintro e w6 ⟨hao, hcap, rfl, hHo, hb6⟩
  have hB6 := hB5.trans (hb6.mono (by omega))
  have hWt6 := hWt5.later hb6
  have hGt6 := hGt5.later hb6
  have hHt6 := atInt_owns rfl hHo
  have hz6 := hb6.size
  clear hb6 hB5 hWt5 hGt5 hHo HI
  have HQ := eqIntRS hao wao hcap wcap R w6 (by unfold maxLen; omega) hHt6 hWt6
  go_wp2_with fail
  refine HQ.mono ?_
  rintro e w7 ⟨rfl, hb7⟩
  have hB7 := hB6.trans (hb7.mono (by omega))
  have hGt7 := hGt6.later hb7
  have hz7 := hb7.size
  clear HQ hb7 hB6 hWt6 hGt6 hHt6
  have HH := heldIntR gao gcap 1 R.length w7 (by omega) (by omega) hGt7
  rw [hLL] at HH
  go_wp2_with fail
  refine HH.mono ?_
  rintro e w8 ⟨rfl, hb8⟩
  have hB8 := hB7.trans (hb8.mono (by omega))
  clear HH hb8
  go_wp2
  go_ret
  exact ⟨rfl, hB8⟩

open Go.ChangeShapes Go.WideShapes Go.ChangeAt

theorem own : ownKnob Try.prog.godebug = none := by kernel_rfl
theorem laidOut : laidOutB Try.prog = true := by kernel_rfl

set_option maxRecDepth 100000 in
theorem lifted (os : Os) (started : os.Started) (H : Type) (enc : TypeId × Value → H) :
    ReturnsInHanded {} Try.checked os 3 .any (Rows.fnExactPlanLevelsSpec.pre6 enc Try.prog Try.f3 Rows.fnExactPlanLevelsRow.domain false) (Rows.fnExactPlanLevelsSpec.post enc Try.prog Try.f3 false true false false) := by
  refine returnsInHanded_of_change (C := Try.checked) own started (by kernel_rfl) Try.func3
    (ChangeSpec.witness6 (enc := enc) (C := Try.checked) false ⟨#[], #[.int .i64 0, .int .i64 0], []⟩ 8 (by kernel_rfl) (by kernel_rfl) (by kernel_rfl) (by kernel_rfl)) ?_
  intro W base args ds gs before hval0 hW hcnd _
  have hval : ∀ (j : Nat) t v, Try.f3.params[j]? = some t → args[j]? = some v → Value.okWide Try.prog W .any base t v := hval0
  have hW' := hW
  obtain ⟨p, q, hA0, hV, rfl, hfz, hnd⟩ := hW
  have hA : DataW.TrodAll enc Try.prog W 0 (fun _ => true) true Try.f3.params.toList args.toList ds p := hA0
  rw [Try.params3] at hA hval
  have hlt := hA.lt
  obtain ⟨v0, vs0, d0, ds0, p0, q0, hargs, rfl, rfl, h0, r0⟩ := trodAll_cons hA
  obtain ⟨v1, vs1, d1, ds1, p1, q1, rfl, rfl, rfl, h1, r1⟩ := trodAll_cons r0
  obtain ⟨rfl, rfl, rfl⟩ := trodAll_nil r1
  obtain rfl : args = #[v0, v1] := by cases args; simp_all
  obtain ⟨rfl, rfl⟩ := trodVars_none hV
  obtain ⟨a, rfl⟩ := okWide_int Try.underlying3 (hval 0 3 v0 rfl rfl)
  obtain ⟨b, rfl⟩ := okWide_int Try.underlying3 (hval 1 3 v1 rfl rfl)
  clear hA0 hval0
  refine (levelsLaw a b W).mono fun e W' ⟨he, bel⟩ => ?_
  subst he
  exact ⟨_, rfl, _, _, _, [], _, _, hW', trodAll_mk1 (shut_bool Try.underlying4 _), (trodAll_cons_mk (Below.trod laidOut (by kernel_rfl) (of_decide_eq_true (by kernel_rfl)) h0 bel (fun y hy => hlt y (by simp [hy]))) (trodAll_cons_mk (Below.trod laidOut (by kernel_rfl) (of_decide_eq_true (by kernel_rfl)) h1 bel (fun y hy => hlt y (by simp [hy]))) trodAll_mk0)), rfl, bel.frame _, fun h => by cases h⟩

theorem over : Rows.fnExactPlanLevelsRow.holds Try.pinned (OpenSpec.ofChange Rows.fnExactPlanLevelsSpec) :=
  OpenClaim.holds_of_wide 3 Try.f3 rfl rfl rfl rfl rfl rfl rfl ⟨rfl, rfl, rfl, rfl, rfl⟩ rfl rfl rfl rfl rfl (by kernel_rfl) Try.func3 (by kernel_rfl)
    (of_decide_eq_true (by kernel_rfl)) (by unfold Func.isWrapper; first | (rw [if_pos (by decide +kernel)]; kernel_rfl) | (rw [if_neg (by decide +kernel)]; exact ⟨rfl, rfl⟩))
    (fun os started H enc _ => lifted os started H enc)
end Lev

theorem exactLevels_proved : Rows.FnExactPlanLevelsSaid := Lev.over
#print axioms exactLevels_proved
end Go.Proofs.Ytelnlnoacfjfnaa
