/- DERIVED. What an argument that is a base of plans reads as, as plain data. -/
import Derived.Test.YtohgkiljdehefaaPlL0
import Derived.Lib.LaidTab
import Derived.ChangeBears2
namespace Go.Proofs.Ytohgkiljdehefaa
open Go.RowKit Go.WideShapes
set_option linter.unusedSimpArgs false
set_option linter.unusedVariables false
set_option maxRecDepth 100000

theorem opKind : Opens Try.prog 107 vPlanKind :=
  opens_struct Try.underlying107 (by kernel_rfl) (opensFs_cons rfl (by kernel_rfl) (opens_str Try.underlying9) (opensFs_cons rfl (by kernel_rfl) (opens_int Try.underlying3) (opensFs_one rfl (by kernel_rfl) (opens_int Try.underlying3))))
theorem opPoint : Opens Try.prog 109 vPlanPoint :=
  opens_struct Try.underlying109 (by kernel_rfl) (opensFs_cons rfl (by kernel_rfl) (opens_str Try.underlying9) (opensFs_cons rfl (by kernel_rfl) (opens_int Try.underlying3) (opensFs_one rfl (by kernel_rfl) (opens_int Try.underlying3))))
theorem opBase : Opens Try.prog 25 vPlanBase :=
  opens_struct Try.underlying25 (by kernel_rfl) (opensFs_cons rfl (by kernel_rfl) (opens_slice Try.underlying22 (by kernel_rfl) (by decide) opKind) (opensFs_one rfl (by kernel_rfl) (opens_slice Try.underlying23 (by kernel_rfl) (by decide) opPoint)))

theorem base_of {H : Type} {enc : TypeId × Value → H} {W : World} {base : Nat} {v : Value} {d : DataW H} {p : List MemPlace} (hv : Value.okWide Try.prog W .any base 25 v) (h : DataW.Trod enc Try.prog W 0 (fun _ => true) true 25 v d p) :
    ∃ (x : DPlanBase) (ao0 : Option Addr) (cap0 : Nat) (ao1 : Option Addr) (cap1 : Nat), v = .agg #[.slice ao0 x.1.length cap0, .slice ao1 x.2.length cap1] ∧ BaseAt W x ao0 cap0 ao1 cap1 := by
  obtain ⟨cs, rfl, hcs⟩ := okWide_struct Try.underlying25 hv
  obtain ⟨fuel, h1⟩ := h
  obtain ⟨x, hx⟩ := opBase _ _ _ _ _ _ _ _ _ h1
  obtain ⟨ao0, cap0, ao1, cap1, hc, p0, p1⟩ := cells_PlanBase hx
  refine ⟨x, ao0, cap0, ao1, cap1, ?_, p0, p1⟩
  obtain rfl : cs = #[.slice ao0 x.1.length cap0, .slice ao1 x.2.length cap1] := by
    apply Array.ext'
    exact hc
  rfl
end Go.Proofs.Ytohgkiljdehefaa
