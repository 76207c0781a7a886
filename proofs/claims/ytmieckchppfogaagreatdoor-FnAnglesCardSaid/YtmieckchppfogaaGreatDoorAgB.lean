/-
  Tangents, the ground and the line, by the model (chapter 14). No condition of its own.
-/
import Derived.Test.YtmieckchppfogaaGreatDoorAgA
import Derived.Deep.QuietTactic
import Derived.BigQuiet
namespace Go.Proofs.YtmieckchppfogaaGreatDoor
open Go.RowKit Go.Shelf
set_option linter.unusedVariables false
set_option maxRecDepth 100000

theorem wrap_in {x : Int} (h1 : -9000000000000000000 ≤ x) (h2 : x ≤ 9000000000000000000) : IntKind.i64.wrap x = x := IntWalk.i64_in _ ⟨by omega, by omega⟩
theorem below_q {w0 w : World} (h : Below w0.heap.size w0 w) (n : Nat) : Below w0.heap.size w0 (w.drewN n) := below_drewN h n
end Go.Proofs.YtmieckchppfogaaGreatDoor
