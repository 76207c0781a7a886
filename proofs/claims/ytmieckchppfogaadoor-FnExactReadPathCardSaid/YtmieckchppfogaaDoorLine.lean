import Derived.Test.YtmieckchppfogaaDoorNum
import Derived.Laws.AppendOwn
namespace Go.Proofs.YtmieckchppfogaaDoor
open Go.RowKit
set_option linter.unusedVariables false

theorem line_a {x0 y0 x1 y1 x : Int} (h : x ≤ x0 ∨ x1 ≤ x0) : Ar.line x0 y0 x1 y1 x = y0 := by unfold Ar.line; rw [if_pos h]
theorem line_b {x0 y0 x1 y1 x : Int} (h : ¬ (x ≤ x0 ∨ x1 ≤ x0)) (h2 : x1 ≤ x) : Ar.line x0 y0 x1 y1 x = y1 := by unfold Ar.line; rw [if_neg h, if_pos h2]
theorem line_c {x0 y0 x1 y1 x : Int} (h : ¬ (x ≤ x0 ∨ x1 ≤ x0)) (h2 : ¬ x1 ≤ x) : Ar.line x0 y0 x1 y1 x = y0 + Ar.dr ((y1 - y0) * (x - x0)) (x1 - x0) := by unfold Ar.line; rw [if_neg h, if_neg h2]

end Go.Proofs.YtmieckchppfogaaDoor
