/-
  Chapter 7 by the model: the strength of a layer. No condition of its own.
-/
import Derived.Test.YteikghppebiibaaStA
namespace Go.Proofs.Yteikghppebiibaa
open Go.RowKit Go.Shelf
set_option linter.unusedVariables false
set_option maxRecDepth 100000

end Go.Proofs.Yteikghppebiibaa
