/-
  The cell in a direction from a cell of a grid (chapter 9), by the model. No condition of its own.
-/
import Derived.Test.YtaldmdammipfjaaGt
import Derived.Deep.RegionWith
namespace Go.Proofs.Ytaldmdammipfjaa
open Go.RowKit Go.Shelf Go.Deep
set_option linter.unusedVariables false
set_option maxRecDepth 100000

end Go.Proofs.Ytaldmdammipfjaa
