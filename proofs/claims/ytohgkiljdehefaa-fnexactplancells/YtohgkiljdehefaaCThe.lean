/-
  For every base of plans and every list of names, laws.FnExactPlanCells returns true, and both read behind the call as they read before: impl.PlanCells answers as the specification's PlanCells does, cells and whether there are any, writes into no argument, keeps nothing of one, and its answer owns its memory.
  No condition of ours: the statement as given (Rows.FnExactPlanCellsSaid).
-/
import Derived.Test.YtohgkiljdehefaaCLaw
import Derived.Test.YtohgkiljdehefaaPlOp
import Derived.ProofKit
import Derived.OpenShut
import Derived.ChangeOld
namespace Go.Proofs.Ytohgkiljdehefaa
namespace ExactCells
open Go.ChangeShapes Go.WideShapes Go.ChangeAt Go.RowKit
set_option linter.unusedVariables false
set_option linter.unusedSimpArgs false

theorem own : ownKnob Try.prog.godebug = none := by kernel_rfl
theorem opList : Opens Try.prog 55 (vSlice vStr) := opens_slice Try.underlying55 (by kernel_rfl) (by decide) (opens_str Try.underlying9)
theorem laidOut : laidOutB Try.prog = true := by kernel_rfl

set_option maxRecDepth 100000 in
theorem lifted (os : Os) (started : os.Started) (H : Type) (enc : TypeId × Value → H) :
    ReturnsInHanded {} Try.checked os 7 .any (Rows.fnExactPlanCellsSpec.pre6 enc Try.prog Try.f7 Rows.fnExactPlanCellsRow.domain false) (Rows.fnExactPlanCellsSpec.post enc Try.prog Try.f7 false true false false) := by
  refine returnsInHanded_of_change (C := Try.checked) own started (by kernel_rfl) Try.func7
    (ChangeSpec.witness6 (enc := enc) (C := Try.checked) false ⟨#[], #[.agg #[.slice none 0 0, .slice none 0 0], .slice none 0 0], []⟩ 8 (by kernel_rfl) (by kernel_rfl) (by kernel_rfl) (by kernel_rfl)) ?_
  intro W base args ds gs before hval0 hW hcnd _
  have hval : ∀ (j : Nat) t v, Try.f7.params[j]? = some t → args[j]? = some v → Value.okWide Try.prog W .any base t v := hval0
  have hW' := hW
  obtain ⟨p, q, hA0, hV, rfl, hfz, hnd⟩ := hW
  have hA : DataW.TrodAll enc Try.prog W 0 (fun _ => true) true Try.f7.params.toList args.toList ds p := hA0
  rw [Try.params7] at hA hval
  have hlt := hA.lt
  obtain ⟨v0, vs0, d0, ds0, p0, q0, hargs, rfl, rfl, h0, r0⟩ := trodAll_cons hA
  obtain ⟨v1, vs1, d1, ds1, p1, q1, rfl, rfl, rfl, h1x, r1⟩ := trodAll_cons r0
  obtain ⟨rfl, rfl, rfl⟩ := trodAll_nil r1
  obtain rfl : args = #[v0, v1] := by cases args; simp_all
  obtain ⟨rfl, rfl⟩ := trodVars_none hV
  obtain ⟨x, ao0, cap0, ao1, cap1, rfl, hx⟩ := base_of (hval 0 25 v0 rfl rfl) h0
  obtain ⟨la, ln, lc, rfl⟩ := okWide_slice Try.underlying55 (hval 1 55 v1 rfl rfl)
  have h1x' := h1x
  obtain ⟨fl, h1y⟩ := h1x
  obtain ⟨l, lao, lcap, hlc, hl⟩ := opList _ _ _ _ _ _ _ _ _ h1y
  obtain ⟨rfl, rfl, rfl⟩ : la = lao ∧ ln = l.length ∧ lc = lcap := by
    have e : ([.slice la ln lc] : List Value) = [.slice lao l.length lcap] := hlc
    simp at e
    exact e
  clear hA0 hval0
  refine (Pcl.cellsLaw x ao0 cap0 ao1 cap1 la lc l W hx hl).mono fun e W' ⟨he, bel⟩ => ?_
  subst he
  exact ⟨_, rfl, _, _, _, [], _, _, hW', trodAll_mk1 (shut_bool Try.underlying4 _), (trodAll_cons_mk (Below.trod laidOut (by kernel_rfl) (of_decide_eq_true (by kernel_rfl)) h0 bel (fun y hy => hlt y (by simp [hy]))) (trodAll_cons_mk (Below.trod laidOut (by kernel_rfl) (of_decide_eq_true (by kernel_rfl)) h1x' bel (fun y hy => hlt y (by simp [hy]))) trodAll_mk0)), rfl, bel.frame _, fun h => by cases h⟩

theorem over : Rows.fnExactPlanCellsRow.holds Try.pinned (OpenSpec.ofChange Rows.fnExactPlanCellsSpec) :=
  OpenClaim.holds_of_wide 7 Try.f7 rfl rfl rfl rfl rfl rfl rfl ⟨rfl, rfl, rfl, rfl, rfl⟩ rfl rfl rfl rfl rfl (by kernel_rfl) Try.func7 (by kernel_rfl)
    (of_decide_eq_true (by kernel_rfl)) (by unfold Func.isWrapper; first | (rw [if_pos (by decide +kernel)]; kernel_rfl) | (rw [if_neg (by decide +kernel)]; exact ⟨rfl, rfl⟩))
    (fun os started H enc _ => lifted os started H enc)
end ExactCells

theorem exactCells_proved : Rows.FnExactPlanCellsSaid := ExactCells.over
#print axioms exactCells_proved
end Go.Proofs.Ytohgkiljdehefaa
