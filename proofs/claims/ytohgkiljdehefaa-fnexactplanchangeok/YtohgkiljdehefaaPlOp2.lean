/- DERIVED. What an argument that is a number or a text reads as. -/
import Derived.Test.YtohgkiljdehefaaVw1
import Derived.Test.YtohgkiljdehefaaRows
import Derived.Lib.LaidTab
import Derived.ChangeBears2
namespace Go.Proofs.Ytohgkiljdehefaa
open Go.RowKit Go.WideShapes
set_option linter.unusedSimpArgs false
set_option linter.unusedVariables false
set_option maxRecDepth 100000

theorem int_of {H : Type} {enc : TypeId × Value → H} {W : World} {base : Nat} {v : Value} {d : DataW H} {p : List MemPlace} (hv : Value.okWide Try.prog W .any base 3 v) (h : DataW.Trod enc Try.prog W 0 (fun _ => true) true 3 v d p) : ∃ n : Int, v = .int .i64 n ∧ In64 n := by
  obtain ⟨n, rfl⟩ := okWide_int Try.underlying3 hv
  obtain ⟨fuel, h1⟩ := h
  obtain ⟨x, hc, hx⟩ := opens_int Try.underlying3 _ _ _ _ _ _ _ _ _ h1
  cases hc
  exact ⟨n, rfl, hx⟩
theorem str_of {H : Type} {enc : TypeId × Value → H} {W : World} {base : Nat} {v : Value} {d : DataW H} {p : List MemPlace} (hv : Value.okWide Try.prog W .any base 9 v) (h : DataW.Trod enc Try.prog W 0 (fun _ => true) true 9 v d p) : ∃ s : ByteArray, v = .string s ∧ s.size ≤ maxLen := by
  obtain ⟨n, rfl⟩ := okWide_string Try.underlying9 hv
  obtain ⟨fuel, h1⟩ := h
  obtain ⟨x, hc, hx⟩ := opens_str Try.underlying9 _ _ _ _ _ _ _ _ _ h1
  cases hc
  exact ⟨n, rfl, hx⟩
end Go.Proofs.Ytohgkiljdehefaa
