/- DERIVED. What an argument that is a base of plans reads as, as plain data. -/
import Derived.Test.YtohgkiljdehefaaGreatPlL0
import Derived.Lib.LaidTab
import Derived.ChangeBears2
import Derived.Test.YtohgkiljdehefaaGreatBkL0
namespace Go.Proofs.YtohgkiljdehefaaGreat
open Go.RowKit Go.WideShapes
set_option linter.unusedSimpArgs false
set_option linter.unusedVariables false
set_option maxRecDepth 100000

theorem opKind : Opens Tryz.prog 103 vPlanKind :=
  opens_struct Tryz.underlying103 (by kernel_rfl) (opensFs_cons rfl (by kernel_rfl) (opens_str Tryz.underlying9) (opensFs_cons rfl (by kernel_rfl) (opens_int Tryz.underlying3) (opensFs_one rfl (by kernel_rfl) (opens_int Tryz.underlying3))))
theorem opPoint : Opens Tryz.prog 106 vPlanPoint :=
  opens_struct Tryz.underlying106 (by kernel_rfl) (opensFs_cons rfl (by kernel_rfl) (opens_str Tryz.underlying9) (opensFs_cons rfl (by kernel_rfl) (opens_int Tryz.underlying3) (opensFs_one rfl (by kernel_rfl) (opens_int Tryz.underlying3))))
theorem opBase : Opens Tryz.prog 25 vPlanBase :=
  opens_struct Tryz.underlying25 (by kernel_rfl) (opensFs_cons rfl (by kernel_rfl) (opens_slice Tryz.underlying22 (by kernel_rfl) (by decide) opKind) (opensFs_one rfl (by kernel_rfl) (opens_slice Tryz.underlying23 (by kernel_rfl) (by decide) opPoint)))

theorem base_of {H : Type} {enc : TypeId × Value → H} {W : World} {base : Nat} {v : Value} {d : DataW H} {p : List MemPlace} (hv : Value.okWide Tryz.prog W .any base 25 v) (h : DataW.Trod enc Tryz.prog W 0 (fun _ => true) true 25 v d p) :
    ∃ (x : DPlanBase) (ao0 : Option Addr) (cap0 : Nat) (ao1 : Option Addr) (cap1 : Nat), v = .agg #[.slice ao0 x.1.length cap0, .slice ao1 x.2.length cap1] ∧ BaseAt W x ao0 cap0 ao1 cap1 := by
  obtain ⟨cs, rfl, hcs⟩ := okWide_struct Tryz.underlying25 hv
  obtain ⟨fuel, h1⟩ := h
  obtain ⟨x, hx⟩ := opBase _ _ _ _ _ _ _ _ _ h1
  obtain ⟨ao0, cap0, ao1, cap1, hc, p0, p1⟩ := cells_PlanBase hx
  refine ⟨x, ao0, cap0, ao1, cap1, ?_, p0, p1⟩
  obtain rfl : cs = #[.slice ao0 x.1.length cap0, .slice ao1 x.2.length cap1] := by
    apply Array.ext'
    exact hc
  rfl
end Go.Proofs.YtohgkiljdehefaaGreat

/- DERIVED. What an argument that is a book of plans reads as, as plain data. -/
namespace Go.Proofs.YtohgkiljdehefaaGreat
open Go.RowKit Go.WideShapes
set_option linter.unusedSimpArgs false
set_option linter.unusedVariables false
set_option maxRecDepth 100000

theorem opField : Opens Tryz.prog 129 vPlanField :=
  opens_struct Tryz.underlying129 (by kernel_rfl) (opensFs_cons rfl (by kernel_rfl) (opens_int Tryz.underlying3) (opensFs_cons rfl (by kernel_rfl) (opens_int Tryz.underlying3) (opensFs_one rfl (by kernel_rfl) (opens_str Tryz.underlying9))))
theorem opEntry : Opens Tryz.prog 75 vPlanEntry :=
  opens_struct Tryz.underlying75 (by kernel_rfl) (opensFs_cons rfl (by kernel_rfl) (opens_str Tryz.underlying9) (opensFs_one rfl (by kernel_rfl) (opens_slice Tryz.underlying73 (by kernel_rfl) (by decide) opField)))
theorem opBook : Opens Tryz.prog 28 vPlanBook :=
  opens_struct Tryz.underlying28 (by kernel_rfl) (opensFs_cons rfl (by kernel_rfl) opBase (opensFs_one rfl (by kernel_rfl) (opens_slice Tryz.underlying26 (by kernel_rfl) (by decide) opEntry)))

theorem book_of {H : Type} {enc : TypeId × Value → H} {W : World} {base : Nat} {v : Value} {d : DataW H} {p : List MemPlace} (hv : Value.okWide Tryz.prog W .any base 28 v) (h : DataW.Trod enc Tryz.prog W 0 (fun _ => true) true 28 v d p) :
    ∃ (x : DPlanBook) (ao0 : Option Addr) (cap0 : Nat) (ao1 : Option Addr) (cap1 : Nat) (ao2 : Option Addr) (cap2 : Nat), v = .agg #[.slice ao0 x.1.1.length cap0, .slice ao1 x.1.2.length cap1, .slice ao2 x.2.length cap2] ∧ BookAt W x ao0 cap0 ao1 cap1 ao2 cap2 := by
  obtain ⟨cs, rfl, hcs⟩ := okWide_struct Tryz.underlying28 hv
  obtain ⟨fuel, h1⟩ := h
  obtain ⟨x, hx⟩ := opBook _ _ _ _ _ _ _ _ _ h1
  obtain ⟨ao0, cap0, ao1, cap1, ao2, cap2, hc, p0, p1, p2⟩ := cells_PlanBook hx
  refine ⟨x, ao0, cap0, ao1, cap1, ao2, cap2, ?_, p0, p1, p2⟩
  obtain rfl : cs = #[.slice ao0 x.1.1.length cap0, .slice ao1 x.1.2.length cap1, .slice ao2 x.2.length cap2] := by
    apply Array.ext'
    exact hc
  rfl
end Go.Proofs.YtohgkiljdehefaaGreat
