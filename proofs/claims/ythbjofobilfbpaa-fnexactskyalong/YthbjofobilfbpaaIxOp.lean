/- DERIVED. What an argument that is an index reads as, as plain data. -/
import Derived.Test.YthbjofobilfbpaaVSkyIndex
import Derived.Lib.LaidTab
import Derived.ChangeBears2
namespace Go.Proofs.Ythbjofobilfbpaa
open Go.RowKit Go.WideShapes
set_option linter.unusedSimpArgs false
set_option linter.unusedVariables false

theorem opRun : Opens Try.prog 81 vSkyRun :=
  opens_struct Try.underlying81 (by kernel_rfl) (opensFs_cons rfl (by kernel_rfl) (opens_int Try.underlying3) (opensFs_cons rfl (by kernel_rfl) (opens_int Try.underlying3) (opensFs_one rfl (by kernel_rfl) (opens_str Try.underlying9))))
theorem opRow : Opens Try.prog 68 vSkyRow :=
  opens_struct Try.underlying68 (by kernel_rfl) (opensFs_cons rfl (by kernel_rfl) (opens_int Try.underlying3) (opensFs_cons rfl (by kernel_rfl) (opens_int Try.underlying3) (opensFs_one rfl (by kernel_rfl) (opens_slice Try.underlying66 (by kernel_rfl) (by decide) opRun))))
theorem opHop : Opens Try.prog 70 vSkyHop :=
  opens_struct Try.underlying70 (by kernel_rfl) (opensFs_cons rfl (by kernel_rfl) (opens_str Try.underlying9) (opensFs_cons rfl (by kernel_rfl) (opens_str Try.underlying9) (opensFs_cons rfl (by kernel_rfl) (opens_int Try.underlying3) (opensFs_one rfl (by kernel_rfl) (opens_str Try.underlying9)))))
theorem opIndex : Opens Try.prog 25 vSkyIndex :=
  opens_struct Try.underlying25 (by kernel_rfl) (opensFs_cons rfl (by kernel_rfl) (opens_slice Try.underlying22 (by kernel_rfl) (by decide) opRow) (opensFs_one rfl (by kernel_rfl) (opens_slice Try.underlying23 (by kernel_rfl) (by decide) opHop)))

theorem index_of {H : Type} {enc : TypeId × Value → H} {W : World} {base : Nat} {v : Value} {d : DataW H} {p : List MemPlace} (hv : Value.okWide Try.prog W .any base 25 v) (h : DataW.Trod enc Try.prog W 0 (fun _ => true) true 25 v d p) :
    ∃ (x : DSkyIndex) (ao0 : Option Addr) (cap0 : Nat) (ao1 : Option Addr) (cap1 : Nat), v = .agg #[.slice ao0 x.1.length cap0, .slice ao1 x.2.length cap1] ∧ SliceAt vSkyRow (old W) W ao0 cap0 x.1 ∧ SliceAt vSkyHop (old W) W ao1 cap1 x.2 := by
  obtain ⟨cs, rfl, hcs⟩ := okWide_struct Try.underlying25 hv
  obtain ⟨fuel, h1⟩ := h
  obtain ⟨x, hx⟩ := opIndex _ _ _ _ _ _ _ _ _ h1
  obtain ⟨ao0, cap0, ao1, cap1, hc, p0, p1⟩ := cells_SkyIndex hx
  refine ⟨x, ao0, cap0, ao1, cap1, ?_, p0, p1⟩
  obtain rfl : cs = #[.slice ao0 x.1.length cap0, .slice ao1 x.2.length cap1] := by
    apply Array.ext'
    exact hc
  rfl
end Go.Proofs.Ythbjofobilfbpaa
