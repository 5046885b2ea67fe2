/- DERIVED. What an argument that is a book of plans reads as, as plain data. -/
import Derived.Test.YtohgkiljdehefaaBkL0
import Derived.Test.YtohgkiljdehefaaPlOp
namespace Go.Proofs.Ytohgkiljdehefaa
open Go.RowKit Go.WideShapes
set_option linter.unusedSimpArgs false
set_option linter.unusedVariables false
set_option maxRecDepth 100000

theorem opField : Opens Try.prog 164 vPlanField :=
  opens_struct Try.underlying164 (by kernel_rfl) (opensFs_cons rfl (by kernel_rfl) (opens_int Try.underlying3) (opensFs_cons rfl (by kernel_rfl) (opens_int Try.underlying3) (opensFs_one rfl (by kernel_rfl) (opens_str Try.underlying9))))
theorem opEntry : Opens Try.prog 123 vPlanEntry :=
  opens_struct Try.underlying123 (by kernel_rfl) (opensFs_cons rfl (by kernel_rfl) (opens_str Try.underlying9) (opensFs_one rfl (by kernel_rfl) (opens_slice Try.underlying121 (by kernel_rfl) (by decide) opField)))
theorem opBook : Opens Try.prog 46 vPlanBook :=
  opens_struct Try.underlying46 (by kernel_rfl) (opensFs_cons rfl (by kernel_rfl) opBase (opensFs_one rfl (by kernel_rfl) (opens_slice Try.underlying44 (by kernel_rfl) (by decide) opEntry)))

theorem book_of {H : Type} {enc : TypeId × Value → H} {W : World} {base : Nat} {v : Value} {d : DataW H} {p : List MemPlace} (hv : Value.okWide Try.prog W .any base 46 v) (h : DataW.Trod enc Try.prog W 0 (fun _ => true) true 46 v d p) :
    ∃ (x : DPlanBook) (ao0 : Option Addr) (cap0 : Nat) (ao1 : Option Addr) (cap1 : Nat) (ao2 : Option Addr) (cap2 : Nat), v = .agg #[.slice ao0 x.1.1.length cap0, .slice ao1 x.1.2.length cap1, .slice ao2 x.2.length cap2] ∧ BookAt W x ao0 cap0 ao1 cap1 ao2 cap2 := by
  obtain ⟨cs, rfl, hcs⟩ := okWide_struct Try.underlying46 hv
  obtain ⟨fuel, h1⟩ := h
  obtain ⟨x, hx⟩ := opBook _ _ _ _ _ _ _ _ _ h1
  obtain ⟨ao0, cap0, ao1, cap1, ao2, cap2, hc, p0, p1, p2⟩ := cells_PlanBook hx
  refine ⟨x, ao0, cap0, ao1, cap1, ao2, cap2, ?_, p0, p1, p2⟩
  obtain rfl : cs = #[.slice ao0 x.1.1.length cap0, .slice ao1 x.1.2.length cap1, .slice ao2 x.2.length cap2] := by
    apply Array.ext'
    exact hc
  rfl
end Go.Proofs.Ytohgkiljdehefaa
