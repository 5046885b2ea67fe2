/-
  For every index and every place, laws.FnExactSkyFind returns true, and both read behind the call as they read before: impl.SkyFind answers as the specification's SkyFind does and writes into no argument.
  No condition of ours: the statement as given (Rows.FnExactSkyFindSaid).
-/
import Derived.Test.YthbjofobilfbpaaFLaw
import Derived.Test.YthbjofobilfbpaaIxOp
import Derived.ProofKit
import Derived.OpenShut
import Derived.ChangeOld
namespace Go.Proofs.Ythbjofobilfbpaa
namespace ExactFind
open Go.ChangeShapes Go.WideShapes Go.ChangeAt Go.RowKit
set_option linter.unusedVariables false
set_option linter.unusedSimpArgs false

def vPlace : View DPlace := vPair vInt (vPair vInt vInt)
theorem opPlace : Opens Try.prog 27 vPlace :=
  opens_struct Try.underlying27 (by kernel_rfl) (opensFs_cons rfl (by kernel_rfl) (opens_int Try.underlying3) (opensFs_cons rfl (by kernel_rfl) (opens_int Try.underlying3) (opensFs_one rfl (by kernel_rfl) (opens_int Try.underlying3))))

theorem own : ownKnob Try.prog.godebug = none := by kernel_rfl
theorem laidOut : laidOutB Try.prog = true := by kernel_rfl

theorem place_of {H : Type} {enc : TypeId × Value → H} {W : World} {base : Nat} {v : Value} {d : DataW H} {p : List MemPlace} (hv : Value.okWide Try.prog W .any base 27 v) (h : DataW.Trod enc Try.prog W 0 (fun _ => true) true 27 v d p) : ∃ q : DPlace, v = vPl q := by
  obtain ⟨cs, rfl, hcs⟩ := okWide_struct Try.underlying27 hv
  obtain ⟨fuel, h1⟩ := h
  obtain ⟨x, hx⟩ := opPlace _ _ _ _ _ _ _ _ _ h1
  obtain ⟨c0, r0, hc, ⟨rfl, p0⟩, c1, r1, rfl, ⟨rfl, p1⟩, rfl, p2⟩ := hx
  refine ⟨x, ?_⟩
  obtain rfl : cs = #[.int .i64 x.1, .int .i64 x.2.1, .int .i64 x.2.2] := by
    apply Array.ext'
    exact hc
  rfl

set_option maxRecDepth 100000 in
theorem lifted (os : Os) (started : os.Started) (H : Type) (enc : TypeId × Value → H) :
    ReturnsInHanded {} Try.checked os 3 .any (Rows.fnExactSkyFindSpec.pre6 enc Try.prog Try.f3 Rows.fnExactSkyFindRow.domain false) (Rows.fnExactSkyFindSpec.post enc Try.prog Try.f3 false true false false) := by
  refine returnsInHanded_of_change (C := Try.checked) own started (by kernel_rfl) Try.func3
    (ChangeSpec.witness6 (enc := enc) (C := Try.checked) false ⟨#[], #[.agg #[.slice none 0 0, .slice none 0 0], vPl (0, 0, 0)], []⟩ 8 (by kernel_rfl) (by kernel_rfl) (by kernel_rfl) (by kernel_rfl)) ?_
  intro W base args ds gs before hval0 hW hcnd _
  have hval : ∀ (j : Nat) t v, Try.f3.params[j]? = some t → args[j]? = some v → Value.okWide Try.prog W .any base t v := hval0
  have hW' := hW
  obtain ⟨p, q, hA0, hV, rfl, hfz, hnd⟩ := hW
  have hA : DataW.TrodAll enc Try.prog W 0 (fun _ => true) true Try.f3.params.toList args.toList ds p := hA0
  rw [Try.params3] at hA hval
  have hlt := hA.lt
  obtain ⟨v0, vs0, d0, ds0, p0, q0, hargs, rfl, rfl, h0, r0⟩ := trodAll_cons hA
  obtain ⟨v1, vs1, d1, ds1, p1, q1, rfl, rfl, rfl, h1, r1⟩ := trodAll_cons r0
  obtain ⟨rfl, rfl, rfl⟩ := trodAll_nil r1
  obtain rfl : args = #[v0, v1] := by cases args; simp_all
  obtain ⟨rfl, rfl⟩ := trodVars_none hV
  obtain ⟨x, ao0, cap0, ao1, cap1, rfl, hx⟩ := index_of (hval 0 25 v0 rfl rfl) h0
  obtain ⟨b, rfl⟩ := place_of (hval 1 27 v1 rfl rfl) h1
  clear hA0 hval0
  refine (findLaw x ao0 cap0 ao1 cap1 b W ⟨hx.1, hx.2⟩).mono fun e W' ⟨he, bel⟩ => ?_
  subst he
  exact ⟨_, rfl, _, _, _, [], _, _, hW', trodAll_mk1 (shut_bool Try.underlying4 _), (trodAll_cons_mk (Below.trod laidOut (by kernel_rfl) (of_decide_eq_true (by kernel_rfl)) h0 bel (fun y hy => hlt y (by simp [hy]))) (trodAll_cons_mk (Below.trod laidOut (by kernel_rfl) (of_decide_eq_true (by kernel_rfl)) h1 bel (fun y hy => hlt y (by simp [hy]))) trodAll_mk0)), rfl, bel.frame _, fun h => by cases h⟩

theorem over : Rows.fnExactSkyFindRow.holds Try.pinned (OpenSpec.ofChange Rows.fnExactSkyFindSpec) :=
  OpenClaim.holds_of_wide 3 Try.f3 rfl rfl rfl rfl rfl rfl rfl ⟨rfl, rfl, rfl, rfl, rfl⟩ rfl rfl rfl rfl rfl (by kernel_rfl) Try.func3 (by kernel_rfl)
    (of_decide_eq_true (by kernel_rfl)) (by unfold Func.isWrapper; first | (rw [if_pos (by decide +kernel)]; kernel_rfl) | (rw [if_neg (by decide +kernel)]; exact ⟨rfl, rfl⟩))
    (fun os started H enc _ => lifted os started H enc)
end ExactFind

theorem exactFind_proved : Rows.FnExactSkyFindSaid := ExactFind.over
#print axioms exactFind_proved
end Go.Proofs.Ythbjofobilfbpaa
