/-
  For every kind of flying, laws.FnExactFlyKindOk returns true, and the kind reads behind the call as it read before: impl.FlyKindOk answers as the specification's FlyKindOk does.
  No condition of ours: the statement as given (Rows.FnExactFlyKindOkSaid).
-/
import Derived.Test.YtfjeiegoblaadaaFyI0
import Derived.Test.YtfjeiegoblaadaaFyS0
import Derived.Deep.RegionWith
import Derived.ProofKit
import Derived.OpenShut
import Derived.ChangeOld
import Derived.Lib.LaidTab
import Derived.ChangeBears2
namespace Go.Proofs.Ytfjeiegoblaadaa
namespace ExFyKind
open Go.RowKit
set_option linter.unusedSimpArgs false
set_option linter.unusedVariables false

set_option maxRecDepth 100000 in
set_option maxHeartbeats 8000000 in
theorem small (x0 : DFlyKind) (w : World) :
    Calls Try.prog 3 #[.agg #[.int .i64 x0.1, .int .i64 x0.2]] w fun e w' => e = .returned (.bool true) ∧ Below w.heap.size w w' := by
  have HSW := fun W => Fly.sKindOk x0 W
  unfold Fly.vKi at HSW
  have HIW := fun W => Fly.iKindOk x0 W
  unfold Fly.vKi at HIW
  obtain ⟨R0, hRe0⟩ : ∃ R, R = (pb (Fly.KindOk x0)) := ⟨_, rfl⟩
  simp only [← hRe0] at HSW HIW
  clear hRe0
  have hbn0 : (R0 != R0) = false := by simp
  obtain ⟨w0, hw0⟩ : ∃ w0, w0 = (w.alloc (.cells #[.int .i64 x0.1, .int .i64 x0.2] 23)) := ⟨_, rfl⟩
  have hz_0 : w0.heap.size = w.heap.size + 1 := by rw [hw0]; simp
  have B_0 : Below w.heap.size w w0 := by rw [hw0]; exact (Below.refl w.heap.size w).alloc (by simp) _
  have S0_0 : BxC (w.heap.size) #[.int .i64 x0.1, .int .i64 x0.2] w0 := by rw [hw0]; exact BxC.new w _ _
  have HT := toFlyKind_any x0  w0 
  rw [hw0] at HT
  go_enter Try.func3, Try.ntmps3
  go_wp2_with fail
  refine HT.mono ?_
  rw [← hw0]
  rintro e w1 ⟨rfl, hb⟩
  clear HT hw0
  have hz_1 : w0.heap.size ≤ w1.heap.size := hb.size
  have B_1 := B_0.trans (hb.mono (by omega))
  have S0_1 := S0_0.below hb (by omega)
  clear B_0 S0_0 hb
  have HT := HSW  w1 
  go_wp2_with fail
  refine HT.mono ?_
  rintro e w2 ⟨rfl, hb⟩
  clear HT
  have hz_2 : w1.heap.size ≤ w2.heap.size := hb.size
  have B_2 := B_1.trans (hb.mono (by omega))
  have S0_2 := S0_1.below hb (by omega)
  clear B_1 S0_1 hb
  clear HSW
  have c0_0 := S0_2 0
  have c0_1 := S0_2 1
  simp at c0_0 c0_1
  have HT := toFlyKind_any x0  w2 
  go_wp2_with fail
  refine HT.mono ?_
  rintro e w3 ⟨rfl, hb⟩
  clear HT
  clear c0_0 c0_1
  have hz_3 : w2.heap.size ≤ w3.heap.size := hb.size
  have B_3 := B_2.trans (hb.mono (by omega))
  have S0_3 := S0_2.below hb (by omega)
  clear B_2 S0_2 hb
  have HT := HIW  w3 
  go_wp2_with fail
  refine HT.mono ?_
  rintro e w4 ⟨rfl, hb⟩
  clear HT
  have hz_4 : w3.heap.size ≤ w4.heap.size := hb.size
  have B_4 := B_3.trans (hb.mono (by omega))
  have S0_4 := S0_3.below hb (by omega)
  clear B_3 S0_3 hb
  clear HIW
  go_wp2
  go_ret
  exact ⟨rfl, B_4⟩

theorem walked (x0 : DFlyKind) (w : World) :
    Calls Try.prog 3 #[.agg #[.int .i64 x0.1, .int .i64 x0.2]] w fun e w' => e = .returned (.bool true) ∧ Below w.heap.size w w' := by
  exact small x0 w

theorem opFlyKind : Opens Try.prog 23 vFlyKind :=
  opens_struct Try.underlying23 (by kernel_rfl) (opensFs_cons rfl (by kernel_rfl) (opens_int Try.underlying3) (opensFs_one rfl (by kernel_rfl) (opens_int Try.underlying3)))

open Go.ChangeShapes Go.WideShapes Go.ChangeAt
theorem own : ownKnob Try.prog.godebug = none := by kernel_rfl
theorem laidOut : laidOutB Try.prog = true := by kernel_rfl

set_option maxRecDepth 100000 in
theorem lifted (os : Os) (started : os.Started) (H : Type) (enc : TypeId × Value → H) :
    ReturnsInHanded {} Try.checked os 3 .any (Rows.fnExactFlyKindOkSpec.pre6 enc Try.prog Try.f3 Rows.fnExactFlyKindOkRow.domain false) (Rows.fnExactFlyKindOkSpec.post enc Try.prog Try.f3 false true false false) := by
  refine returnsInHanded_of_change (C := Try.checked) own started (by kernel_rfl) Try.func3
    (ChangeSpec.witness6 (enc := enc) (C := Try.checked) false ⟨#[], #[.agg #[.int .i64 0, .int .i64 0]], []⟩ 8 (by kernel_rfl) (by kernel_rfl) (by kernel_rfl) (by kernel_rfl)) ?_
  intro W base args ds gs before hval0 hW hcnd _
  have hval : ∀ (j : Nat) t v, Try.f3.params[j]? = some t → args[j]? = some v → Value.okWide Try.prog W .any base t v := hval0
  have hW' := hW
  obtain ⟨p, q, hA0, hV, rfl, hfz, hnd⟩ := hW
  have hA : DataW.TrodAll enc Try.prog W 0 (fun _ => true) true Try.f3.params.toList args.toList ds p := hA0
  rw [Try.params3] at hA hval
  have hlt := hA.lt
  obtain ⟨v0, vs0, d0, ds0, pp0, qq0, hargs, rfl, rfl, h0, r0⟩ := trodAll_cons hA
  obtain ⟨rfl, rfl, rfl⟩ := trodAll_nil r0
  obtain rfl : args = #[v0] := by cases args; simp_all
  obtain ⟨rfl, rfl⟩ := trodVars_none hV
  obtain ⟨cs, rfl, hcs⟩ := okWide_struct Try.underlying23 (hval 0 23 v0 rfl rfl)
  obtain ⟨x0, hx0⟩ : ∃ x0 : DFlyKind, cs = #[.int .i64 x0.1, .int .i64 x0.2] := by
    obtain ⟨fl, hy⟩ := h0
    obtain ⟨x, hx⟩ := opFlyKind _ _ _ _ _ _ _ _ _ hy
    obtain ⟨hc, _, _⟩ := cells_FlyKind hx
    exact ⟨x, Array.ext' hc⟩
  subst hx0
  clear hA0 hval0
  refine (walked x0 W).mono fun e W' ⟨he, bel⟩ => ?_
  subst he
  exact ⟨_, rfl, _, _, _, [], _, _, hW', trodAll_mk1 (shut_bool Try.underlying4 _), (trodAll_cons_mk (Below.trod laidOut (by kernel_rfl) (of_decide_eq_true (by kernel_rfl)) h0 bel (fun y hy => hlt y (by simp [hy]))) trodAll_mk0), rfl, bel.frame _, fun h => by cases h⟩

theorem over : Rows.fnExactFlyKindOkRow.holds Try.pinned (OpenSpec.ofChange Rows.fnExactFlyKindOkSpec) :=
  OpenClaim.holds_of_wide 3 Try.f3 rfl rfl rfl rfl rfl rfl rfl ⟨rfl, rfl, rfl, rfl, rfl⟩ rfl rfl rfl rfl rfl (by kernel_rfl) Try.func3 (by kernel_rfl)
    (of_decide_eq_true (by kernel_rfl)) (by unfold Func.isWrapper; first | (rw [if_pos (by decide +kernel)]; kernel_rfl) | (rw [if_neg (by decide +kernel)]; exact ⟨rfl, rfl⟩))
    (fun os started H enc _ => lifted os started H enc)
end ExFyKind

theorem exactKindOk_proved : Rows.FnExactFlyKindOkSaid := ExFyKind.over
#print axioms exactKindOk_proved
end Go.Proofs.Ytfjeiegoblaadaa
