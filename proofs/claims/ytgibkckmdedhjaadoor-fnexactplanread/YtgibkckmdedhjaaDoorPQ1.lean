/- DERIVED. A region's class made narrower on the way. -/
import Derived.Test.YtgibkckmdedhjaaDoorPQ0
namespace Go.Proofs.YtgibkckmdedhjaaDoor
open Go.RowKit
set_option linter.unusedSimpArgs false
set_option linter.unusedVariables false

theorem wpAnyC_mono {P : Program} {ops : Array Oper} {md : Region.Mode} {Q : Exit → Act → World → Prop} {C C' : World → Prop} (h : ∀ w, C' w → C w) : ∀ (n : Nat) (listed : Array Bool) (a : Act) (w : World), wpAnyC P md ops C' Q n listed a w → wpAnyC P md ops C Q n listed a w
  | 0, _, _, _, h1 => h1
  | n + 1, listed, a, w, h1 => ⟨h1.1, fun i hi => wpOp_mono (fun a' w' h2 => ⟨h w' h2.1, wpAnyC_mono h n _ a' w' h2.2⟩) (h1.2 i hi)⟩
theorem RC.narrow {P : Program} {ops : Array Oper} {md : Region.Mode} {Q : Exit → Act → World → Prop} {C : World → Prop} (C' : World → Prop) (h : ∀ w, C' w → C w) {n : Nat} {listed : Array Bool} {a : Act} {w : World} (h1 : RC P md ops C' Q n listed a w) : RC P md ops C Q n listed a w := ⟨wpAnyC_mono h n listed a w h1.out⟩

end Go.Proofs.YtgibkckmdedhjaaDoor
