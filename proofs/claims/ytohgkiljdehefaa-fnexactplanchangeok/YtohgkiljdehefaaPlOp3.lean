/- DERIVED. What an argument that is a change reads as. -/
import Derived.Test.YtohgkiljdehefaaVPlanChange1
import Derived.Lib.LaidTab
import Derived.ChangeBears2
namespace Go.Proofs.Ytohgkiljdehefaa
open Go.RowKit Go.WideShapes
set_option linter.unusedSimpArgs false
set_option linter.unusedVariables false
set_option maxRecDepth 100000

theorem opChange : Opens Try.prog 38 vPlanChange :=
  opens_struct Try.underlying38 (by kernel_rfl) (opensFs_cons rfl (by kernel_rfl) (opens_str Try.underlying9) (opensFs_cons rfl (by kernel_rfl) (opens_int Try.underlying3) (opensFs_cons rfl (by kernel_rfl) (opens_int Try.underlying3) (opensFs_one rfl (by kernel_rfl) (opens_str Try.underlying9)))))
theorem change_of {H : Type} {enc : TypeId × Value → H} {W : World} {base : Nat} {v : Value} {d : DataW H} {p : List MemPlace} (hv : Value.okWide Try.prog W .any base 38 v) (h : DataW.Trod enc Try.prog W 0 (fun _ => true) true 38 v d p) :
    ∃ (x : DPlanChange), v = .agg #[.string x.1, .int .i64 x.2.1, .int .i64 x.2.2.1, .string x.2.2.2] ∧ x.1.size ≤ maxLen ∧ In64 x.2.1 ∧ In64 x.2.2.1 ∧ x.2.2.2.size ≤ maxLen := by
  obtain ⟨cs, rfl, hcs⟩ := okWide_struct Try.underlying38 hv
  obtain ⟨fuel, h1⟩ := h
  obtain ⟨x, hx⟩ := opChange _ _ _ _ _ _ _ _ _ h1
  obtain ⟨hc, p0, p1, p2, p3⟩ := cells_PlanChange hx
  refine ⟨x, ?_, p0, p1, p2, p3⟩
  obtain rfl : cs = #[.string x.1, .int .i64 x.2.1, .int .i64 x.2.2.1, .string x.2.2.2] := by
    apply Array.ext'
    exact hc
  rfl
end Go.Proofs.Ytohgkiljdehefaa
