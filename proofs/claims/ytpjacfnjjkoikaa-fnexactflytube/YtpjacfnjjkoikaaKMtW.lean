/- DERIVED. The method 'window' on an interface value: of a step, of a path's end. -/
import Derived.Test.YtpjacfnjjkoikaaKFlI0
namespace Go.Proofs.Ytpjacfnjjkoikaa
namespace Fly
open Go.RowKit
set_option linter.unusedSimpArgs false
set_option linter.unusedVariables false

theorem methWS (a b c d e f g : Value) (w : World) : (method (236 + 1) 76 (.agg #[a, b, c, d, e, f, g]) "loop.example/lapwing/impl.window").run Try.prog w = .ok (113, .agg #[a, b, c, d, e, f, g]) w := by kernel_rfl
theorem methWE (a b c d e : Value) (w : World) : (method (236 + 1) 116 (.agg #[a, b, c, d, e]) "loop.example/lapwing/impl.window").run Try.prog w = .ok (114, .agg #[a, b, c, d, e]) w := by kernel_rfl

end Fly
end Go.Proofs.Ytpjacfnjjkoikaa
