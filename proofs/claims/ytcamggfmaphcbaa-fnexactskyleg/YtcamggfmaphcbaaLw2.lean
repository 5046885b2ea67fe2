/-
  For every two cells, laws.FnExactSkyLeg returns true, and both read behind the call as they read before: impl.SkyLeg answers as the specification's SkyLeg does, its answer is new memory, and a second call does not write into it.
  No condition of ours: the statement as given (Rows.FnExactSkyLegSaid).
-/
import Derived.Test.YtcamggfmaphcbaaLw1
import Derived.ProofKit
import Derived.OpenShut
import Derived.ChangeOld
namespace Go.Proofs.Ytcamggfmaphcbaa
namespace Leg
open Go.ChangeShapes Go.WideShapes Go.ChangeAt Go.RowKit
set_option linter.unusedVariables false
set_option linter.unusedSimpArgs false

def vCellV : View DCell := vPair vInt vInt
theorem opCell : Opens Try.prog 33 vCellV :=
  opens_struct Try.underlying33 (by kernel_rfl) (opensFs_cons rfl (by kernel_rfl) (opens_int Try.underlying3) (opensFs_one rfl (by kernel_rfl) (opens_int Try.underlying3)))
theorem cells_place {ok : Nat → Prop} {w : World} {c : List Value} {p : DCell} (h : vCellV.rel ok w c p) : c = [.int .i64 p.1, .int .i64 p.2] := by
  obtain ⟨c0, r0, rfl, ⟨rfl, p0⟩, rfl, p1⟩ := h
  rfl

theorem own : ownKnob Try.prog.godebug = none := by kernel_rfl
theorem laidOut : laidOutB Try.prog = true := by kernel_rfl

theorem place_of {H : Type} {enc : TypeId × Value → H} {W : World} {base : Nat} {v : Value} {d : DataW H} {p : List MemPlace} (hv : Value.okWide Try.prog W .any base 33 v) (h : DataW.Trod enc Try.prog W 0 (fun _ => true) true 33 v d p) : ∃ q : DCell, v = vCe q := by
  obtain ⟨cs, rfl, hcs⟩ := okWide_struct Try.underlying33 hv
  obtain ⟨fuel, h1⟩ := h
  obtain ⟨x, hx⟩ := opCell _ _ _ _ _ _ _ _ _ h1
  have hc := cells_place hx
  refine ⟨x, ?_⟩
  obtain rfl : cs = #[.int .i64 x.1, .int .i64 x.2] := by
    apply Array.ext'
    exact hc
  rfl

set_option maxRecDepth 100000 in
theorem lifted (os : Os) (started : os.Started) (H : Type) (enc : TypeId × Value → H) :
    ReturnsInHanded {} Try.checked os 4 .any (Rows.fnExactSkyLegSpec.pre6 enc Try.prog Try.f4 Rows.fnExactSkyLegRow.domain false) (Rows.fnExactSkyLegSpec.post enc Try.prog Try.f4 false true false false) := by
  refine returnsInHanded_of_change (C := Try.checked) own started (by kernel_rfl) Try.func4
    (ChangeSpec.witness6 (enc := enc) (C := Try.checked) false ⟨#[], #[vCe (0, 0), vCe (0, 0)], []⟩ 8 (by kernel_rfl) (by kernel_rfl) (by kernel_rfl) (by kernel_rfl)) ?_
  intro W base args ds gs before hval0 hW hcnd _
  have hval : ∀ (j : Nat) t v, Try.f4.params[j]? = some t → args[j]? = some v → Value.okWide Try.prog W .any base t v := hval0
  have hW' := hW
  obtain ⟨p, q, hA0, hV, rfl, hfz, hnd⟩ := hW
  have hA : DataW.TrodAll enc Try.prog W 0 (fun _ => true) true Try.f4.params.toList args.toList ds p := hA0
  rw [Try.params4] at hA hval
  have hlt := hA.lt
  obtain ⟨v0, vs0, d0, ds0, p0, q0, hargs, rfl, rfl, h0, r0⟩ := trodAll_cons hA
  obtain ⟨v1, vs1, d1, ds1, p1, q1, rfl, rfl, rfl, h1, r1⟩ := trodAll_cons r0
  obtain ⟨rfl, rfl, rfl⟩ := trodAll_nil r1
  obtain rfl : args = #[v0, v1] := by cases args; simp_all
  obtain ⟨rfl, rfl⟩ := trodVars_none hV
  obtain ⟨a, rfl⟩ := place_of (hval 0 33 v0 rfl rfl) h0
  obtain ⟨b, rfl⟩ := place_of (hval 1 33 v1 rfl rfl) h1
  clear hA0 hval0
  refine (law_any a b W).mono fun e W' ⟨he, bel⟩ => ?_
  subst he
  exact ⟨_, rfl, _, _, _, [], _, _, hW', trodAll_mk1 (shut_bool Try.underlying4 _), (trodAll_cons_mk (Below.trod laidOut (by kernel_rfl) (of_decide_eq_true (by kernel_rfl)) h0 bel (fun y hy => hlt y (by simp [hy]))) (trodAll_cons_mk (Below.trod laidOut (by kernel_rfl) (of_decide_eq_true (by kernel_rfl)) h1 bel (fun y hy => hlt y (by simp [hy]))) trodAll_mk0)), rfl, bel.frame _, fun h => by cases h⟩

theorem over : Rows.fnExactSkyLegRow.holds Try.pinned (OpenSpec.ofChange Rows.fnExactSkyLegSpec) :=
  OpenClaim.holds_of_wide 4 Try.f4 rfl rfl rfl rfl rfl rfl rfl ⟨rfl, rfl, rfl, rfl, rfl⟩ rfl rfl rfl rfl rfl (by kernel_rfl) Try.func4 (by kernel_rfl)
    (of_decide_eq_true (by kernel_rfl)) (by unfold Func.isWrapper; first | (rw [if_pos (by decide +kernel)]; kernel_rfl) | (rw [if_neg (by decide +kernel)]; exact ⟨rfl, rfl⟩))
    (fun os started H enc _ => lifted os started H enc)
end Leg

theorem exactLeg_proved : Rows.FnExactSkyLegSaid := Leg.over
#print axioms exactLeg_proved
end Go.Proofs.Ytcamggfmaphcbaa
