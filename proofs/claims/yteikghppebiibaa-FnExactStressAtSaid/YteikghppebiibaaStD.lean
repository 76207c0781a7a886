/-
  Chapter 7 by the model: the index of a layer, the weakest layer, when a profile is stable. No condition of its own.
-/
import Derived.Test.YteikghppebiibaaStF
namespace Go.Proofs.Yteikghppebiibaa
open Go.RowKit Go.Shelf
set_option linter.unusedVariables false
set_option maxRecDepth 100000

end Go.Proofs.Yteikghppebiibaa
